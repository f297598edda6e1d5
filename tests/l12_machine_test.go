package tests

import (
	"math"
	"slices"
	"testing"

	"loop.example/g00277/impl"
)

// sessionsOf has a session for each four numbers: its Client, Seq, Reply and Value.
func sessionsOf(numbers ...int64) []impl.Session {
	var list []impl.Session
	for four := range slices.Chunk(numbers, 4) {
		list = append(list, impl.Session{Client: four[0], Seq: four[1], Reply: four[2], Value: four[3]})
	}
	return list
}

func machineOf(p impl.Pool, numbers ...int64) impl.Machine {
	return impl.Machine{Pool: p, Sessions: sessionsOf(numbers...)}
}

// sessionsUpTo has n sessions of the clients 2, 4, 6 and so on, no two alike.
func sessionsUpTo(n int64) []impl.Session {
	var list []impl.Session
	for i := range n {
		list = append(list, impl.Session{Client: 2 + 2*i, Seq: 5 + i, Reply: i % 11, Value: i % 256})
	}
	return list
}

// crowdedMachine has as many sessions as there may be, of the clients 2, 4 .. 80.
func crowdedMachine() impl.Machine {
	return impl.Machine{Pool: plainPool(), Sessions: sessionsUpTo(40)}
}

func copyMachine(m impl.Machine) impl.Machine {
	return impl.Machine{Pool: copyPool(m.Pool), Sessions: slices.Clone(m.Sessions)}
}

func sameMachine(a, b impl.Machine) bool {
	return samePool(a.Pool, b.Pool) && slices.Equal(a.Sessions, b.Sessions)
}

// machineAnswer is all that is told beside a machine.
type machineAnswer struct {
	reply, value int64
	fresh        bool
}

func wantMachine(t *testing.T, name string, got impl.MachineResult, told machineAnswer, m impl.Machine) {
	t.Helper()
	if got.Code != impl.OK || (machineAnswer{got.Reply, got.Value, got.Fresh}) != told || !sameMachine(got.Machine, m) {
		t.Fatalf("%s: got %v, want %v and the machine %v", name, got, told, m)
	}
	if code := impl.MachineFault(got.Machine); code != impl.OK {
		t.Fatalf("%s: the answer %v has the fault %d", name, got, code)
	}
}

func wantMachineCode(t *testing.T, name string, got impl.MachineResult, code int64) {
	t.Helper()
	if got.Code != code || (machineAnswer{got.Reply, got.Value, got.Fresh}) != (machineAnswer{}) || !sameMachine(got.Machine, impl.Machine{}) {
		t.Fatalf("%s: got %v, want the code %d and nothing else", name, got, code)
	}
}

func wantMachineFault(t *testing.T, name string, m impl.Machine, code int64) {
	t.Helper()
	if got := impl.MachineFault(m); got != code {
		t.Fatalf("%s: %v: got %d, want %d", name, m, got, code)
	}
}

func wantSession(t *testing.T, name string, got impl.SessionResult, code int64, s impl.Session) {
	t.Helper()
	if got.Code != code || got.Session != s {
		t.Fatalf("%s: got %v, want the code %d and the session %v", name, got, code, s)
	}
}

// sessionField is one field of a session, with both ends of what it may be.
type sessionField struct {
	name      string
	low, high int64
	of        func(s *impl.Session) *int64
}

func sessionFields() []sessionField {
	return []sessionField{
		{"Client", 1, 99, func(s *impl.Session) *int64 { return &s.Client }},
		{"Seq", 1, 999, func(s *impl.Session) *int64 { return &s.Seq }},
		{"Reply", 0, 10, func(s *impl.Session) *int64 { return &s.Reply }},
		{"Value", 0, 255, func(s *impl.Session) *int64 { return &s.Value }},
	}
}

type machineCase struct {
	name    string
	machine impl.Machine
	code    int64
}

// withSession is the crowded machine with one session changed.
func withSession(at int, change func(s *impl.Session)) impl.Machine {
	m := crowdedMachine()
	change(&m.Sessions[at])
	return m
}

// badSessionNumbers are just beyond both ends of the field, and far away.
func badSessionNumbers(f sessionField) []int64 {
	return append(badNumbers(f.low, f.high), -1, f.high+2, math.MinInt64+1, math.MaxInt64-1)
}

func faultySessions() []machineCase {
	var list []machineCase
	for _, at := range []int{0, 1, 20, 38, 39} {
		for _, f := range sessionFields() {
			for _, n := range badSessionNumbers(f) {
				list = append(list, machineCase{"range of " + f.name, withSession(at, func(s *impl.Session) { *f.of(s) = n }), impl.ErrRange})
			}
		}
	}
	for at := 1; at < 40; at++ {
		ahead := crowdedMachine().Sessions[at-1].Client
		for _, client := range []int64{ahead, ahead - 1, 1} {
			list = append(list, machineCase{"not above the one ahead", withSession(at, func(s *impl.Session) { s.Client = client }), impl.ErrForm})
		}
	}
	return append(list,
		machineCase{"a session that is nothing", withSession(7, func(s *impl.Session) { *s = impl.Session{} }), impl.ErrRange},
		machineCase{"the first one is the last client", withSession(0, func(s *impl.Session) { s.Client = 99 }), impl.ErrForm},
		machineCase{"two of one client alone", machineOf(plainPool(), 5, 1, 0, 0, 5, 2, 0, 0), impl.ErrForm},
		machineCase{"one session twice", machineOf(plainPool(), 5, 1, 0, 0, 5, 1, 0, 0), impl.ErrForm},
	)
}

// manySessions are too many: right as such, and wrong.
func manySessions() []machineCase {
	var list []machineCase
	for _, n := range []int64{41, 42, 49} {
		list = append(list, machineCase{"too many sessions", impl.Machine{Pool: plainPool(), Sessions: sessionsUpTo(n)}, impl.ErrMany})
	}
	for _, n := range []int{41, 42, 100, 5000} {
		list = append(list,
			machineCase{"too many sessions, all wrong", impl.Machine{Sessions: make([]impl.Session, n)}, impl.ErrMany},
			machineCase{"too many sessions of one client", impl.Machine{Sessions: slices.Repeat(sessionsOf(3, 3, 3, 3), n)}, impl.ErrMany})
	}
	return list
}

// pairedFaults have two faults: the one that is told comes first.
func pairedFaults() []machineCase {
	var list []machineCase
	add := func(name string, code int64, numbers ...int64) {
		list = append(list, machineCase{name, machineOf(plainPool(), numbers...), code})
	}
	for _, below := range []int64{7, 6, 1} {
		for _, far := range []int64{math.MinInt64, -1, 1000, math.MaxInt64} {
			add("Seq ahead of the order", impl.ErrRange, 7, 1, 0, 0, below, far, 0, 0)
			add("Reply ahead of the order", impl.ErrRange, 7, 1, 0, 0, below, 1, far, 0)
			add("Value ahead of the order", impl.ErrRange, 7, 1, 0, 0, below, 1, 0, far)
			add("the order ahead of the next one's Client", impl.ErrForm, 7, 1, 0, 0, below, 1, 0, 0, far, 1, 0, 0)
			add("the order ahead of the next one's Seq", impl.ErrForm, 7, 1, 0, 0, below, 1, 0, 0, 9, far, 0, 0)
			add("the order ahead of the next one's Reply", impl.ErrForm, 7, 1, 0, 0, below, 1, 0, 0, 9, 1, far, 0)
			add("the order ahead of the next one's Value", impl.ErrForm, 7, 1, 0, 0, below, 1, 0, 0, 9, 1, 0, far)
			add("a range ahead of the next one's order", impl.ErrRange, 7, far, 0, 0, below, 1, 0, 0)
		}
	}
	add("Seq 0 ahead of the order", impl.ErrRange, 7, 1, 0, 0, 7, 0, 0, 0)
	add("Reply 11 ahead of the order", impl.ErrRange, 7, 1, 0, 0, 7, 1, 11, 0)
	add("Value 256 ahead of the order", impl.ErrRange, 7, 1, 0, 0, 7, 1, 0, 256)
	add("Client 0 is below the one ahead, too", impl.ErrRange, 7, 1, 0, 0, 0, 1, 0, 0)
	return list
}

func faultyMachines() []machineCase {
	list := slices.Concat(faultySessions(), manySessions(), pairedFaults())
	for _, c := range faultyPools() {
		list = append(list,
			machineCase{"pool: " + c.name, impl.Machine{Pool: c.pool}, c.code},
			machineCase{"pool ahead of sessions: " + c.name, impl.Machine{Pool: c.pool, Sessions: sessionsUpTo(41)}, c.code},
			machineCase{"pool ahead of a session: " + c.name, machineOf(c.pool, 0, 1, 0, 0), c.code},
			machineCase{"pool ahead of the order: " + c.name, machineOf(c.pool, 9, 1, 0, 0, 9, 1, 0, 0), c.code})
	}
	return list
}

func soundMachines() []machineCase {
	list := []machineCase{
		{"nothing", impl.Machine{}, impl.OK},
		{"empty lists", impl.Machine{Pool: impl.Pool{Forest: impl.Forest{Nodes: []impl.Node{}, Blocks: []impl.Block{}}, Vols: []impl.Vol{}}, Sessions: []impl.Session{}}, impl.OK},
		{"40 sessions", crowdedMachine(), impl.OK},
		{"39 sessions", impl.Machine{Pool: plainPool(), Sessions: sessionsUpTo(39)}, impl.OK},
		{"the first and the last client", machineOf(plainPool(), 1, 1, 0, 0, 99, 999, 10, 255), impl.OK},
		{"two that are beside one another", machineOf(fullPool(), 41, 7, 9, 1, 42, 7, 9, 1), impl.OK},
		{"a Reply with a Value", machineOf(crowdedPool(), 41, 7, 9, 255), impl.OK},
	}
	for _, f := range sessionFields() {
		for _, n := range []int64{f.low, f.low + 1, f.high - 1, f.high} {
			m := machineOf(plainPool(), 50, 50, 5, 50)
			*f.of(&m.Sessions[0]) = n
			list = append(list, machineCase{"an end of " + f.name, m, impl.OK})
		}
	}
	for _, c := range soundPools() {
		list = append(list, machineCase{c.name, machineOf(c.pool, 3, 4, 0, 7, 8, 1, impl.ErrFull, 0), impl.OK})
	}
	return list
}

func TestMachineFault(t *testing.T) {
	counts := map[int64]int{}
	for _, c := range append(faultyMachines(), soundMachines()...) {
		wantMachineFault(t, c.name, c.machine, c.code)
		counts[c.code]++
	}
	for _, code := range []int64{impl.OK, impl.ErrForm, impl.ErrMany, impl.ErrRange, impl.ErrQuota} {
		if counts[code] < 5 {
			t.Errorf("%d machines with the fault %d", counts[code], code)
		}
	}
}

func TestMachineFaultByHand(t *testing.T) {
	m := impl.Machine{Pool: twicePool(3), Sessions: sessionsUpTo(41)}
	m.Sessions[0].Seq = 0
	wantMachineFault(t, "the pool ahead of too many", m, impl.ErrQuota)
	m.Pool = twicePool(4)
	wantMachineFault(t, "too many ahead of a Seq", m, impl.ErrMany)
	m.Sessions = m.Sessions[:40]
	m.Sessions[1].Client = 2
	wantMachineFault(t, "the Seq of the first ahead of the order of the second", m, impl.ErrRange)
	m.Sessions[0].Seq = 999
	m.Sessions[2].Reply = 11
	wantMachineFault(t, "the order of the second ahead of the Reply of the third", m, impl.ErrForm)
	m.Sessions[1].Value = 256
	wantMachineFault(t, "the Value of the second ahead of its order", m, impl.ErrRange)
	m.Sessions[1].Client, m.Sessions[1].Value = 3, 255
	wantMachineFault(t, "the Reply of the third", m, impl.ErrRange)
	m.Sessions[2].Reply = 10
	wantMachineFault(t, "none", m, impl.OK)
}

func TestNewMachine(t *testing.T) {
	for n := range int64(25) {
		wantMachine(t, "NewMachine", impl.NewMachine(n), machineAnswer{}, impl.Machine{Pool: impl.NewPool(n).Pool})
		if got := impl.NewMachine(n).Machine; len(got.Pool.Forest.Blocks) != int(n) || len(got.Sessions) != 0 {
			t.Errorf("NewMachine(%d) is %v", n, got)
		}
	}
	for _, n := range append(badNumbers(0, 24), -2, 26, 1000) {
		wantMachineCode(t, "NewMachine of a wrong number", impl.NewMachine(n), impl.ErrRange)
	}
}

// The fault of the machine is asked ahead of a client that there is not, or that can be none.
func TestSessionOfTellsTheFaultFirst(t *testing.T) {
	for _, c := range faultyMachines() {
		for _, client := range []int64{2, 3, 7, 80, 0, 100, math.MinInt64, math.MaxInt64} {
			wantSession(t, c.name, impl.SessionOf(c.machine, client), c.code, impl.Session{})
		}
	}
}

func TestSessionOf(t *testing.T) {
	for _, c := range soundMachines() {
		for client := int64(-3); client < 104; client++ {
			at := slices.IndexFunc(c.machine.Sessions, func(s impl.Session) bool { return s.Client == client })
			if at < 0 {
				wantSession(t, c.name, impl.SessionOf(c.machine, client), impl.ErrNone, impl.Session{})
			} else {
				wantSession(t, c.name, impl.SessionOf(c.machine, client), impl.OK, c.machine.Sessions[at])
			}
		}
		for _, client := range []int64{math.MinInt64, math.MaxInt64, 2 + 1<<32, 41 - 1<<32} {
			wantSession(t, c.name, impl.SessionOf(c.machine, client), impl.ErrNone, impl.Session{})
		}
	}
}

func TestSessionOfByHand(t *testing.T) {
	m := machineOf(plainPool(), 2, 9, 4, 0, 5, 1, 0, 77, 99, 999, 10, 255)
	wantSession(t, "the first one", impl.SessionOf(m, 2), impl.OK, impl.Session{Client: 2, Seq: 9, Reply: 4})
	wantSession(t, "in between", impl.SessionOf(m, 5), impl.OK, impl.Session{Client: 5, Seq: 1, Value: 77})
	wantSession(t, "the last one", impl.SessionOf(m, 99), impl.OK, impl.Session{Client: 99, Seq: 999, Reply: 10, Value: 255})
	for _, client := range []int64{0, 1, 3, 4, 6, 50, 98, 100, -2} {
		wantSession(t, "no such client", impl.SessionOf(m, client), impl.ErrNone, impl.Session{})
	}
	wantSession(t, "no sessions", impl.SessionOf(impl.NewMachine(3).Machine, 2), impl.ErrNone, impl.Session{})
}

func wantSameMachines(t *testing.T, name string, a, b impl.Machine, want bool) {
	t.Helper()
	if impl.SameMachines(a, b) != want || impl.SameMachines(b, a) != want {
		t.Fatalf("%s: %v and %v: want %v", name, a, b, want)
	}
}

// sessionChanges are all ways in which the sessions can differ by one thing. They need three sessions.
func sessionChanges() map[string]func(m *impl.Machine) {
	list := map[string]func(m *impl.Machine){
		"one session less":         func(m *impl.Machine) { m.Sessions = m.Sessions[:2] },
		"the first one is missing": func(m *impl.Machine) { m.Sessions = m.Sessions[1:] },
		"one session more":         func(m *impl.Machine) { m.Sessions = append(m.Sessions, impl.Session{}) },
		"the last one twice":       func(m *impl.Machine) { m.Sessions = append(m.Sessions, m.Sessions[2]) },
		"no sessions":              func(m *impl.Machine) { m.Sessions = nil },
		"sessions change":          func(m *impl.Machine) { m.Sessions[0], m.Sessions[1] = m.Sessions[1], m.Sessions[0] },
	}
	for at, where := range []string{"the first one's ", "the second one's ", "the last one's "} {
		for _, f := range sessionFields() {
			list[where+f.name] = func(m *impl.Machine) { *f.of(&m.Sessions[at])++ }
			list[where+f.name+", a fault"] = func(m *impl.Machine) { *f.of(&m.Sessions[at]) = math.MinInt64 }
		}
	}
	return list
}

func TestSameMachines(t *testing.T) {
	three := func() impl.Machine { return machineOf(plainPool(), 2, 9, 4, 0, 5, 1, 0, 77, 8, 99, 9, 25) }
	changes := sessionChanges()
	for name, change := range poolChanges() {
		changes["pool: "+name] = func(m *impl.Machine) { change(&m.Pool) }
	}
	for name, change := range changes {
		changed, again := three(), three()
		change(&changed)
		change(&again)
		wantSameMachines(t, name, changed, three(), false)
		wantSameMachines(t, name, changed, again, true)
	}
	for _, c := range append(faultyMachines(), soundMachines()...) {
		wantSameMachines(t, c.name, c.machine, copyMachine(c.machine), true)
		for _, other := range soundMachines() {
			wantSameMachines(t, c.name+" beside "+other.name, c.machine, other.machine, sameMachine(c.machine, other.machine))
		}
	}
	wantSameMachines(t, "nil and empty lists", soundMachines()[0].machine, soundMachines()[1].machine, true)
	noKids := three()
	noKids.Pool.Forest.Nodes[3].Kids = []int64{}
	wantSameMachines(t, "no Kids, nil and empty", noKids, three(), true)
}
