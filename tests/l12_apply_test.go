package tests

import (
	"slices"
	"testing"

	"loop.example/g00277/impl"
)

// eachKind has operations of each kind without a fault, done and not done by the plain pool.
func eachKind() []impl.Op {
	return append(poolOps(), boundOps()...)
}

// The fault of the machine is asked ahead of the entry's, of a session that is over and of too many.
func TestApplyEntryTellsTheMachineFaultFirst(t *testing.T) {
	right, wrong := opOf(impl.OpCreate, 55, 0, 1), opOf(7, 0, 0, 0)
	for _, c := range faultyMachines() {
		for _, x := range []impl.Entry{{}, entryOf(2, 5, right), entryOf(2, 1, right), entryOf(99, 999, right), entryOf(7, 1, wrong), entryOf(0, 0, right)} {
			wantMachineCode(t, c.name, impl.ApplyEntry(c.machine, x), c.code)
		}
	}
}

// The fault of the entry is asked ahead of a session that is over, and of too many.
func TestApplyEntryTellsTheEntryFault(t *testing.T) {
	late := impl.Machine{Pool: plainPool(), Sessions: sessionsOf(1, 999, 3, 4, 99, 999, 5, 6)}
	same := impl.Machine{Pool: plainPool(), Sessions: sessionsOf(1, 1, 3, 4)}
	for _, c := range faultyEntries() {
		for _, m := range []impl.Machine{{}, late, same, crowdedMachine(), {Pool: fullPool()}} {
			wantMachineCode(t, c.name, impl.ApplyEntry(m, c.entry), c.code)
		}
	}
	for _, o := range wrongOps() {
		for _, client := range []int64{2, 3, 80, 99} {
			for _, seq := range []int64{1, 5, 44, 999} {
				wantMachineCode(t, "a wrong operation", impl.ApplyEntry(crowdedMachine(), entryOf(client, seq, o)), impl.OpFault(o))
			}
		}
	}
}

// withOne is the sessions with one that is written over, or is new and stands where it belongs.
func withOne(list []impl.Session, s impl.Session) []impl.Session {
	list = slices.DeleteFunc(slices.Clone(list), func(other impl.Session) bool { return other.Client == s.Client })
	list = append(list, s)
	slices.SortFunc(list, func(a, b impl.Session) int { return int(a.Client - b.Client) })
	return list
}

// wantFresh asks that the operation is done on the pool, and that the session has what it came to.
func wantFresh(t *testing.T, name string, m impl.Machine, x impl.Entry) impl.Machine {
	t.Helper()
	done := impl.ApplyOp(m.Pool, x.Op)
	s := impl.Session{Client: x.Client, Seq: x.Seq, Reply: done.Reply, Value: done.Value}
	got := impl.ApplyEntry(m, x)
	wantMachine(t, name, got, machineAnswer{done.Reply, done.Value, true}, impl.Machine{Pool: done.Pool, Sessions: withOne(m.Sessions, s)})
	return got.Machine
}

// wantOver asks that nothing changes, and that what the session has is told, or that it is over.
func wantOver(t *testing.T, name string, m impl.Machine, x impl.Entry) {
	t.Helper()
	at := slices.IndexFunc(m.Sessions, func(s impl.Session) bool { return s.Client == x.Client })
	told := machineAnswer{reply: impl.ErrState}
	if s := m.Sessions[at]; s.Seq == x.Seq {
		told = machineAnswer{reply: s.Reply, value: s.Value}
	}
	wantMachine(t, name, impl.ApplyEntry(m, x), told, m)
}

func TestNoSessionIsLeft(t *testing.T) {
	for _, o := range eachKind() {
		for _, client := range []int64{1, 3, 41, 79, 81, 99} {
			for _, seq := range []int64{1, 999} {
				wantMachineCode(t, "a client that has none", impl.ApplyEntry(crowdedMachine(), entryOf(client, seq, o)), impl.ErrMany)
			}
		}
		for _, s := range crowdedMachine().Sessions[:5] {
			wantFresh(t, "a client that has one", crowdedMachine(), entryOf(s.Client, s.Seq+1, o))
			wantOver(t, "the same again", crowdedMachine(), entryOf(s.Client, s.Seq, o))
			wantOver(t, "one that is over", crowdedMachine(), entryOf(s.Client, s.Seq-1, o))
		}
	}
	for _, s := range crowdedMachine().Sessions {
		o := opOf(impl.OpWrite, 3, 0, 1)
		wantFresh(t, "each client", crowdedMachine(), entryOf(s.Client, 999, o))
		wantOver(t, "each client, the same again", crowdedMachine(), entryOf(s.Client, s.Seq, o))
		wantOver(t, "each client, the first Seq", crowdedMachine(), entryOf(s.Client, 1, o))
	}
}

func TestTheLastSessionThatIsLeft(t *testing.T) {
	for _, client := range []int64{1, 3, 41, 77, 79, 99} {
		m := impl.Machine{Pool: plainPool(), Sessions: sessionsUpTo(39)}
		m = wantFresh(t, "the 40th", m, entryOf(client, 1, opOf(impl.OpRead, 3, 0, 0)))
		if len(m.Sessions) != 40 {
			t.Fatalf("%d sessions", len(m.Sessions))
		}
		for _, next := range []int64{5, 95, 97} {
			wantMachineCode(t, "the 41st", impl.ApplyEntry(m, entryOf(next, 1, opOf(impl.OpDelete, 3, 0, 0))), impl.ErrMany)
		}
		wantFresh(t, "the 40th goes on", m, entryOf(client, 2, opOf(impl.OpDelete, 3, 0, 0)))
	}
}

// Each Seq that a session can have, with those that are just below, the same and just above, and both ends.
func TestSeqsAboutTheSession(t *testing.T) {
	o := opOf(impl.OpWrite, 3, 0, 200)
	for last := int64(1); last <= 999; last++ {
		m := machineOf(plainPool(), 4, 999, 1, 1, 5, last, 3, 33, 6, 1, 2, 2)
		for _, seq := range []int64{1, last - 1, last, last + 1, 999} {
			switch {
			case seq < 1 || seq > 999:
				wantMachineCode(t, "no Seq", impl.ApplyEntry(m, entryOf(5, seq, o)), impl.ErrRange)
			case seq > last:
				wantFresh(t, "above", m, entryOf(5, seq, o))
			default:
				wantOver(t, "not above", m, entryOf(5, seq, o))
			}
		}
	}
}

func TestASessionByHand(t *testing.T) {
	m := machineOf(plainPool(), 5, 7, impl.ErrFull, 33)
	x := entryOf(5, 7, opOf(impl.OpDelete, 3, 0, 0))
	wantMachine(t, "the same Seq", impl.ApplyEntry(m, x), machineAnswer{impl.ErrFull, 33, false}, m)
	x.Seq = 6
	wantMachine(t, "a Seq below", impl.ApplyEntry(m, x), machineAnswer{impl.ErrState, 0, false}, m)
	x.Seq = 8
	gone := impl.ApplyOp(plainPool(), x.Op).Pool
	wantMachine(t, "a Seq above", impl.ApplyEntry(m, x), machineAnswer{0, 0, true}, machineOf(gone, 5, 8, 0, 0))
	x.Client, x.Seq = 4, 6
	wantMachine(t, "another client", impl.ApplyEntry(m, x), machineAnswer{0, 0, true}, machineOf(gone, 4, 6, 0, 0, 5, 7, impl.ErrFull, 33))
	x.Op = opOf(impl.OpRead, 3, 10, 0)
	wantMachine(t, "a read", impl.ApplyEntry(m, x), machineAnswer{0, 13, true}, machineOf(plainPool(), 4, 6, 0, 13, 5, 7, impl.ErrFull, 33))
	x.Op = opOf(impl.OpRead, 3, 4, 0)
	wantMachine(t, "a read of nothing", impl.ApplyEntry(m, x), machineAnswer{impl.ErrNone, 0, true}, machineOf(plainPool(), 4, 6, impl.ErrNone, 0, 5, 7, impl.ErrFull, 33))
}

// With the Seq of the session the operation does not count: what was told is told, whatever is asked.
func TestAnotherOperationOfTheSameSeq(t *testing.T) {
	for _, first := range poolOps() {
		m := wantFresh(t, "the first one", machineOf(plainPool(), 9, 1, 0, 0), entryOf(5, 7, first))
		for _, second := range eachKind() {
			wantOver(t, "another operation", m, entryOf(5, 7, second))
			wantOver(t, "another operation that is over", m, entryOf(5, 6, second))
		}
	}
}

type repliedOp struct {
	name  string
	pool  impl.Pool
	op    impl.Op
	reply int64
	value int64
}

func repliedOps() []repliedOp {
	return []repliedOp{
		{"a create", plainPool(), opOf(impl.OpCreate, 4, 0, 1), impl.OK, 0},
		{"a create of an id that is taken", plainPool(), opOf(impl.OpCreate, 3, 0, 1), impl.ErrTaken, 0},
		{"a seventh", crowdedPool(), opOf(impl.OpCreate, 3, 0, 1), impl.ErrMany, 0},
		{"a write", plainPool(), opOf(impl.OpWrite, 3, 2, 255), impl.OK, 0},
		{"a write at the quota", plainPool(), opOf(impl.OpWrite, 7, 0, 1), impl.ErrQuota, 0},
		{"a write where no block is free", fullPool(), opOf(impl.OpWrite, 9, 0, 1), impl.ErrFull, 0},
		{"a write to none", plainPool(), opOf(impl.OpWrite, 4, 0, 1), impl.ErrNone, 0},
		{"a discard", plainPool(), opOf(impl.OpDiscard, 3, 0, 0), impl.OK, 0},
		{"a discard of nothing", plainPool(), opOf(impl.OpDiscard, 3, 5, 0), impl.ErrNone, 0},
		{"a read", plainPool(), opOf(impl.OpRead, 7, 12, 0), impl.OK, 14},
		{"a read of the greatest", poolWith255(), opOf(impl.OpRead, 9, 5, 0), impl.OK, 255},
		{"a read of nothing", plainPool(), opOf(impl.OpRead, 9, 0, 0), impl.ErrNone, 0},
		{"a snapshot", plainPool(), opOf(impl.OpSnap, 3, 0, 4), impl.OK, 0},
		{"a snapshot that is there", plainPool(), opOf(impl.OpSnap, 3, 0, 7), impl.ErrTaken, 0},
		{"a snapshot as a seventh", crowdedPool(), opOf(impl.OpSnap, 1, 0, 3), impl.ErrMany, 0},
		{"a snapshot of none", plainPool(), opOf(impl.OpSnap, 4, 0, 5), impl.ErrNone, 0},
		{"a delete", plainPool(), opOf(impl.OpDelete, 7, 0, 0), impl.OK, 0},
		{"a delete of none", plainPool(), opOf(impl.OpDelete, 8, 0, 0), impl.ErrNone, 0},
	}
}

func poolWith255() impl.Pool {
	return impl.ApplyOp(plainPool(), opOf(impl.OpWrite, 9, 5, 255)).Pool
}

// An operation that comes to a code leaves the pool, and the session has the Reply all the same.
func TestRepliesOfOperations(t *testing.T) {
	for _, c := range repliedOps() {
		x := entryOf(5, 7, c.op)
		got := impl.ApplyEntry(machineOf(c.pool, 1, 1, 1, 1, 5, 6, 7, 8), x)
		want := machineOf(impl.ApplyOp(c.pool, c.op).Pool, 1, 1, 1, 1, 5, 7, c.reply, c.value)
		wantMachine(t, c.name, got, machineAnswer{c.reply, c.value, true}, want)
		if stays := samePool(got.Machine.Pool, c.pool); (c.reply != impl.OK || c.op.Kind == impl.OpRead) != stays {
			t.Errorf("%s: the pool is %v", c.name, got.Machine.Pool)
		}
		wantSession(t, c.name, impl.SessionOf(got.Machine, 5), impl.OK, impl.Session{Client: 5, Seq: 7, Reply: c.reply, Value: c.value})
		wantMachine(t, c.name+", again", impl.ApplyEntry(got.Machine, x), machineAnswer{c.reply, c.value, false}, want)
	}
}

// What was told is told again, though by now it would come to something else.
func TestToldAgainAsItWas(t *testing.T) {
	m := impl.NewMachine(1).Machine
	ask := func(client, seq int64, o impl.Op, told machineAnswer) {
		t.Helper()
		got := impl.ApplyEntry(m, entryOf(client, seq, o))
		if (machineAnswer{got.Reply, got.Value, got.Fresh}) != told || got.Code != impl.OK {
			t.Fatalf("%v: got %v, want %v", o, got, told)
		}
		m = got.Machine
	}
	read, write := opOf(impl.OpRead, 1, 3, 0), opOf(impl.OpWrite, 1, 3, 5)
	ask(8, 1, read, machineAnswer{impl.ErrNone, 0, true})
	ask(2, 1, opOf(impl.OpCreate, 1, 0, 2), machineAnswer{0, 0, true})
	ask(8, 1, read, machineAnswer{impl.ErrNone, 0, false})
	ask(2, 2, write, machineAnswer{0, 0, true})
	ask(8, 2, read, machineAnswer{0, 5, true})
	ask(3, 9, opOf(impl.OpWrite, 1, 4, 6), machineAnswer{impl.ErrFull, 0, true})
	ask(2, 3, opOf(impl.OpDiscard, 1, 3, 0), machineAnswer{0, 0, true})
	ask(8, 2, read, machineAnswer{0, 5, false})
	ask(3, 9, opOf(impl.OpWrite, 1, 4, 6), machineAnswer{impl.ErrFull, 0, false})
	ask(2, 2, write, machineAnswer{impl.ErrState, 0, false})
	ask(2, 3, opOf(impl.OpDiscard, 1, 3, 0), machineAnswer{0, 0, false})
	ask(8, 1, read, machineAnswer{impl.ErrState, 0, false})
	ask(8, 3, read, machineAnswer{impl.ErrNone, 0, true})
	ask(2, 2, write, machineAnswer{impl.ErrState, 0, false})
	ask(3, 10, opOf(impl.OpWrite, 1, 4, 6), machineAnswer{0, 0, true})
	if want := sessionsOf(2, 3, 0, 0, 3, 10, 0, 0, 8, 3, impl.ErrNone, 0); !slices.Equal(m.Sessions, want) {
		t.Errorf("the sessions are %v, want %v", m.Sessions, want)
	}
}

// orders has each order of the clients.
func orders(clients []int64) [][]int64 {
	if len(clients) == 0 {
		return [][]int64{nil}
	}
	var list [][]int64
	for i, first := range clients {
		rest := slices.Delete(slices.Clone(clients), i, i+1)
		for _, order := range orders(rest) {
			list = append(list, append([]int64{first}, order...))
		}
	}
	return list
}

// wantInOrder has entries of the clients done, one of each or more, and asks for a session of each with its last entry.
func wantInOrder(t *testing.T, clients []int64) {
	t.Helper()
	m, want := impl.Machine{Pool: plainPool()}, []impl.Session(nil)
	for i, client := range clients {
		o := eachReply()[i%len(eachReply())]
		m = wantFresh(t, "one more", m, entryOf(client, 10+int64(i), o))
		done := impl.ApplyOp(plainPool(), o)
		want = withOne(want, impl.Session{Client: client, Seq: 10 + int64(i), Reply: done.Reply, Value: done.Value})
		if !slices.Equal(m.Sessions, want) {
			t.Fatalf("%v: the sessions are %v, want %v", clients[:i+1], m.Sessions, want)
		}
	}
}

// eachReply has operations that leave the plain pool as it is, with several replies and values.
func eachReply() []impl.Op {
	return []impl.Op{opOf(impl.OpRead, 3, 0, 0), opOf(impl.OpCreate, 3, 0, 1), opOf(impl.OpRead, 3, 1, 0), opOf(impl.OpWrite, 7, 0, 1), opOf(impl.OpRead, 4, 0, 0), opOf(impl.OpRead, 7, 12, 0), opOf(impl.OpSnap, 3, 0, 9)}
}

func TestTheOrderOfSessions(t *testing.T) {
	for _, order := range orders([]int64{1, 2, 50, 98, 99}) {
		wantInOrder(t, order)
		wantInOrder(t, append(order, order[2], order[0], order[4], order[2]))
	}
	var rising []int64
	for client := int64(1); client <= 99; client++ {
		rising = append(rising, client)
	}
	falling := slices.Clone(rising)
	slices.Reverse(falling)
	for _, list := range [][]int64{rising[:40], rising[59:], falling[:40], falling[59:]} {
		wantInOrder(t, list)
		wantInOrder(t, slices.Concat(list, list))
	}
	x := &dice{state: 12}
	for range 30 {
		var mixed []int64
		for range 60 {
			mixed = append(mixed, 1+3*x.upTo(33))
		}
		wantInOrder(t, mixed)
	}
}

// The session of each place is written over, and no other changes.
func TestASessionIsWrittenOver(t *testing.T) {
	for at, s := range crowdedMachine().Sessions {
		m := wantFresh(t, "written over", crowdedMachine(), entryOf(s.Client, 777, opOf(impl.OpRead, 7, 12, 0)))
		for i, then := range m.Sessions {
			want := crowdedMachine().Sessions[i]
			if i == at {
				want = impl.Session{Client: s.Client, Seq: 777, Value: 14}
			}
			if then != want {
				t.Fatalf("at %d there is %v, want %v", i, then, want)
			}
		}
	}
}

// wantRunCode asks both functions that are given a list.
func wantRunCode(t *testing.T, name string, blocks int64, list []impl.Entry, code int64) {
	t.Helper()
	wantMachineCode(t, name, impl.RunEntries(blocks, list), code)
	wantInts(t, name, impl.RepliesOf(blocks, list), code, nil)
}

func TestRunCodes(t *testing.T) {
	for _, blocks := range append(badNumbers(0, 24), -2, 26) {
		for _, list := range [][]impl.Entry{nil, logUpTo(3), logUpTo(41), make([]impl.Entry, 41), {{}}, logBut(40, 3, entryOf(1, 1, impl.Op{}))} {
			wantRunCode(t, "no number of blocks", blocks, list, impl.ErrRange)
		}
	}
	for _, blocks := range []int64{0, 1, 24} {
		for _, n := range []int64{41, 42, 1000} {
			wantRunCode(t, "too many entries", blocks, logUpTo(n), impl.ErrMany)
			wantRunCode(t, "too many entries, all wrong", blocks, make([]impl.Entry, n), impl.ErrMany)
		}
		for _, c := range faultyEntries() {
			wantRunCode(t, c.name, blocks, []impl.Entry{c.entry}, c.code)
		}
		for at := range int64(40) {
			noKind, noClient := entryOf(1, 1, impl.Op{}), entryOf(100, 1, opOf(impl.OpDelete, 1, 0, 0))
			wantRunCode(t, "a form at each place", blocks, logBut(40, at, noKind), impl.ErrForm)
			wantRunCode(t, "a range at each place", blocks, logBut(40, at, noClient), impl.ErrRange)
			if at < 39 {
				wantRunCode(t, "a form ahead of a range", blocks, append(logBut(at+1, at, noKind), noClient), impl.ErrForm)
				wantRunCode(t, "a range ahead of a form", blocks, append(logBut(at+1, at, noClient), noKind), impl.ErrRange)
			}
		}
	}
}

// No list comes to the ErrMany of ApplyEntry: of 40 entries each can be of a client of its own, and 40 sessions are not too many.
func TestFortyClientsInOneList(t *testing.T) {
	for _, step := range []int64{1, 2} {
		var list []impl.Entry
		for i := range int64(40) {
			list = append(list, entryOf(99-i*step, 1+i, opOf(impl.OpRead, 1, 0, 0)))
		}
		got := impl.RunEntries(8, list)
		if got.Code != impl.OK || len(got.Machine.Sessions) != 40 || got.Machine.Sessions[0].Client != 99-39*step {
			t.Errorf("got %v", got)
		}
		wantInts(t, "each is told that there is none", impl.RepliesOf(8, list), impl.OK, slices.Repeat([]int64{256 * impl.ErrNone}, 40))
	}
}

func TestNoEntries(t *testing.T) {
	for blocks := range int64(25) {
		for _, list := range [][]impl.Entry{nil, {}} {
			wantMachine(t, "no entries", impl.RunEntries(blocks, list), machineAnswer{}, impl.NewMachine(blocks).Machine)
			wantInts(t, "no entries", impl.RepliesOf(blocks, list), impl.OK, nil)
		}
	}
}

func TestRunByHand(t *testing.T) {
	list := []impl.Entry{
		entryOf(7, 3, opOf(impl.OpCreate, 1, 0, 2)),
		entryOf(7, 4, opOf(impl.OpWrite, 1, 3, 255)),
		entryOf(2, 1, opOf(impl.OpRead, 1, 3, 0)),
		entryOf(7, 4, opOf(impl.OpDelete, 1, 0, 0)),
		entryOf(7, 3, opOf(impl.OpCreate, 1, 0, 2)),
		entryOf(9, 999, opOf(impl.OpSnap, 1, 0, 1)),
		entryOf(2, 1, opOf(impl.OpRead, 1, 3, 0)),
		entryOf(2, 5, opOf(impl.OpRead, 1, 4, 0)),
		entryOf(2, 6, opOf(impl.OpRead, 1, 3, 0)),
	}
	told := []int64{0, 0, 255, 0, 256 * impl.ErrState, 256 * impl.ErrTaken, 255, 256 * impl.ErrNone, 255}
	wantInts(t, "RepliesOf", impl.RepliesOf(8, list), impl.OK, told)
	for n, last := range told {
		got := impl.RunEntries(8, list[:n+1])
		if got.Code != impl.OK || got.Reply != last/256 || got.Value != last%256 || got.Fresh {
			t.Errorf("the first %d: got %v, want %d", n+1, got, last)
		}
	}
	got := impl.RunEntries(8, list).Machine
	if want := sessionsOf(2, 6, 0, 255, 7, 4, 0, 0, 9, 999, impl.ErrTaken, 0); !slices.Equal(got.Sessions, want) {
		t.Errorf("the sessions are %v, want %v", got.Sessions, want)
	}
	if text := impl.CellsText(impl.PlainOf(got.Pool).Plain).Text; text != "vol 1 2 3:255\n" {
		t.Errorf("the pool is %q", text)
	}
}
