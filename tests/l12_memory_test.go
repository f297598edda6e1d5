package tests

import (
	"math"
	"slices"
	"testing"

	"loop.example/g00277/impl"
)

// roomyMachine has room behind the end of each list, where a careless append would write.
func roomyMachine(m impl.Machine) impl.Machine {
	m = copyMachine(m)
	f := &m.Pool.Forest
	f.Nodes, f.Blocks, m.Pool.Vols, m.Sessions = roomy(f.Nodes), roomy(f.Blocks), roomy(m.Pool.Vols), roomy(m.Sessions)
	for i, n := range f.Nodes {
		f.Nodes[i].Kids = roomy(n.Kids)
	}
	return m
}

// wholeMachine is a copy that has what stands behind the ends of the lists as well.
func wholeMachine(m impl.Machine) impl.Machine {
	return impl.Machine{Pool: wholePool(m.Pool), Sessions: slices.Clone(m.Sessions[:cap(m.Sessions)])}
}

func scribbleMachine(m impl.Machine) {
	scribblePool(m.Pool)
	all := m.Sessions[:cap(m.Sessions)]
	for i := range all {
		all[i] = impl.Session{Client: -77, Seq: -77, Reply: -77, Value: -77}
	}
}

// keptMachine is a machine whose lists were copied, so that it can be told what was written into it.
type keptMachine struct {
	machine, whole impl.Machine
}

func keepMachine(m impl.Machine) keptMachine {
	return keptMachine{m, wholeMachine(m)}
}

func (k keptMachine) wantUnchanged(t *testing.T, name string) {
	t.Helper()
	if then := wholeMachine(k.machine); !sameMachine(then, k.whole) {
		t.Fatalf("%s: %v became %v", name, k.whole, then)
	}
}

// machineEntries has entries of each kind and Reply of a new client, of one that goes on, of one that asks again and of one that is over.
func machineEntries() []impl.Entry {
	var list []impl.Entry
	for _, o := range poolOps() {
		for _, client := range []int64{1, 2, 5, 99} {
			list = append(list, entryOf(client, 6, o))
		}
		for _, seq := range []int64{1, 5, 7, 999} {
			list = append(list, entryOf(4, seq, o), entryOf(6, seq, o))
		}
	}
	return append(list, impl.Entry{}, entryOf(4, 7, impl.Op{}), entryOf(100, 7, opOf(impl.OpDelete, 3, 0, 0)))
}

// eachApplied has machines whose lists are their own, and roomy, each with each entry.
func eachApplied(yield func(m impl.Machine, x impl.Entry) bool) {
	pool := impl.ApplyOp(plainPool(), opOf(impl.OpSnap, 3, 0, 5)).Pool
	list := []impl.Machine{
		machineOf(pool, 2, 6, 0, 200, 4, 7, 1, 1, 6, 2, 0, 0), machineOf(pool),
		{Pool: pool, Sessions: sessionsUpTo(40)}, {Pool: pool, Sessions: sessionsUpTo(39)}, {Pool: pool, Sessions: sessionsUpTo(41)},
		machineOf(fullPool(), 4, 1, 0, 0), machineOf(crowdedPool(), 1, 1, 0, 0), machineOf(twicePool(4), 99, 9, 9, 9), {},
	}
	for _, m := range list {
		for _, x := range machineEntries() {
			if !yield(roomyMachine(m), x) {
				return
			}
		}
	}
}

func TestApplyEntryChangesNoArgument(t *testing.T) {
	codes, fresh := map[int64]int{}, map[bool]int{}
	for m, x := range eachApplied {
		kept := keepMachine(m)
		got := impl.ApplyEntry(m, x)
		kept.wantUnchanged(t, "ApplyEntry")
		codes[got.Code]++
		fresh[got.Fresh]++
	}
	if codes[impl.OK] < 500 || codes[impl.ErrMany] < 100 || codes[impl.ErrRange] < 5 || codes[impl.ErrForm] < 5 || fresh[true] < 300 || fresh[false] < 300 {
		t.Errorf("codes %v, fresh %v", codes, fresh)
	}
}

func TestApplyEntrySharesNoMemory(t *testing.T) {
	lists := 0
	for m, x := range eachApplied {
		got, again := impl.ApplyEntry(m, x), impl.ApplyEntry(m, x)
		lists += wantApart(t, "an answer, another one and the argument", m, got, again)
		if got.Code != again.Code || got.Reply != again.Reply || got.Value != again.Value || got.Fresh != again.Fresh || !sameMachine(got.Machine, again.Machine) {
			t.Fatalf("another answer at the same argument: %v and %v", got, again)
		}
	}
	if lists < 10000 {
		t.Errorf("%d lists", lists)
	}
}

// What is written into an answer is not in the argument, and what is written into the argument is not in the answer.
func TestWhatIsWrittenIntoAMachineStaysThere(t *testing.T) {
	for m, x := range eachApplied {
		kept := keepMachine(m)
		got := impl.ApplyEntry(m, x)
		want := copyMachine(got.Machine)
		scribbleMachine(got.Machine)
		kept.wantUnchanged(t, "the answer was written into")
		got = impl.ApplyEntry(m, x)
		scribbleMachine(m)
		if !sameMachine(got.Machine, want) {
			t.Fatalf("what is written into the argument is in the answer: %v, want %v", got.Machine, want)
		}
	}
}

// sharingMachine has no fault, but all Kids are pieces of one list; an answer of it has each its own.
func sharingMachine() impl.Machine {
	kids := roomy([]int64{0, -1, -1, 0, 1, -1, 1, -1})
	f := forestOf(blocksOf(2, 9, 0, 0), impl.Node{Refs: 1, Kids: kids[4:8]}, impl.Node{Refs: 2, Leaf: true, Kids: kids[0:4]}, impl.Node{Kids: kids[:0]})
	sessions := roomy(sessionsUpTo(9))
	return impl.Machine{Pool: poolOf(f, 5, 16, 0), Sessions: sessions[:7]}
}

func TestListsThatAMachineSharesAreApartInTheAnswer(t *testing.T) {
	wantMachineFault(t, "it shares", sharingMachine(), impl.OK)
	for _, client := range []int64{1, 2, 7, 14, 99} {
		for _, seq := range []int64{1, 5, 999} {
			for _, o := range []impl.Op{opOf(impl.OpRead, 5, 0, 0), opOf(impl.OpWrite, 5, 0, 1), opOf(impl.OpWrite, 5, 1, 1), opOf(impl.OpDiscard, 5, 3, 0), opOf(impl.OpSnap, 5, 0, 6), opOf(impl.OpDelete, 5, 0, 0), opOf(impl.OpDelete, 6, 0, 0)} {
				m := sharingMachine()
				kept := keepMachine(m)
				got := impl.ApplyEntry(m, entryOf(client, seq, o))
				if got.Code != impl.OK {
					t.Fatalf("the code %d", got.Code)
				}
				wantApart(t, "an answer", got)
				kept.wantUnchanged(t, "lists that share memory")
				scribbleMachine(got.Machine)
				kept.wantUnchanged(t, "the answer was written into")
			}
		}
	}
}

func TestMachineReadsChangeNoArgument(t *testing.T) {
	for _, c := range append(faultyMachines(), soundMachines()...) {
		m, other := roomyMachine(c.machine), roomyMachine(crowdedMachine())
		kept, keptOther := keepMachine(m), keepMachine(other)
		impl.MachineFault(m)
		impl.SameMachines(m, other)
		impl.SameMachines(other, m)
		impl.SameMachines(m, m)
		for _, client := range []int64{2, 3, 5, 80, 99, math.MinInt64, math.MaxInt64} {
			impl.SessionOf(m, client)
			impl.ApplyEntry(m, entryOf(client, 7, opOf(impl.OpCreate, 55, 0, 1)))
		}
		kept.wantUnchanged(t, c.name)
		keptOther.wantUnchanged(t, "beside "+c.name)
	}
}

// entryLists are lists with room behind them, right and with faults.
func entryLists() [][]impl.Entry {
	x := &dice{state: 126}
	list := [][]impl.Entry{roomyLog(0), roomyLog(40), roomyLog(41), roomy(logBut(9, 4, impl.Entry{})), roomy(logBut(9, 8, entryOf(1, 1, impl.Op{})))}
	for n := range int64(41) {
		list = append(list, roomy(anyEntries(x, n)))
	}
	return list
}

func TestRunsChangeNoList(t *testing.T) {
	for _, list := range entryLists() {
		whole := wholeLog(list)
		for _, blocks := range []int64{0, 2, 24, 25, -1} {
			one, other := impl.RunEntries(blocks, list), impl.RunEntries(blocks, list)
			told, again := impl.RepliesOf(blocks, list), impl.RepliesOf(blocks, list)
			wantApart(t, "answers and the list", list, one, other, told, again)
			if one.Code != other.Code || one.Reply != other.Reply || one.Value != other.Value || !sameMachine(one.Machine, other.Machine) {
				t.Fatalf("another answer at the same list: %v and %v", one, other)
			}
			wantInts(t, "RepliesOf once more", again, told.Code, told.List)
			scribbleMachine(one.Machine)
			if !slices.Equal(wholeLog(list), whole) {
				t.Fatalf("%v became %v", whole, wholeLog(list))
			}
		}
	}
}

func TestNewMachinesShareNoMemory(t *testing.T) {
	for blocks := range int64(25) {
		one, other := impl.NewMachine(blocks), impl.NewMachine(blocks)
		wantApart(t, "two new ones", one, other)
		scribbleMachine(one.Machine)
		want := impl.Machine{Pool: poolOf(impl.Forest{Blocks: make([]impl.Block, blocks)})}
		wantMachine(t, "the other one", other, machineAnswer{}, want)
		wantMachine(t, "once more", impl.NewMachine(blocks), machineAnswer{}, want)
	}
}

// Nil and an empty list are the same, in the argument and in the answer.
func TestEmptyListsOfMachines(t *testing.T) {
	for _, x := range machineEntries() {
		nothing, empty := impl.ApplyEntry(impl.Machine{}, x), impl.ApplyEntry(roomyMachine(impl.Machine{}), x)
		if nothing.Code != empty.Code || nothing.Reply != empty.Reply || nothing.Value != empty.Value || nothing.Fresh != empty.Fresh || !sameMachine(nothing.Machine, empty.Machine) {
			t.Errorf("%v: got %v, and with empty lists %v", x, nothing, empty)
		}
	}
	wantSession(t, "empty lists", impl.SessionOf(roomyMachine(impl.Machine{}), 1), impl.ErrNone, impl.Session{})
}

// sessionsFaultIn asks session by session, as the chapter tells.
func sessionsFaultIn(list []impl.Session) int64 {
	if len(list) > 40 {
		return impl.ErrMany
	}
	for i, s := range list {
		if s.Client < 1 || s.Client > 99 || s.Seq < 1 || s.Seq > 999 || s.Reply < 0 || s.Reply > 10 || s.Value < 0 || s.Value > 255 {
			return impl.ErrRange
		}
		if i > 0 && s.Client <= list[i-1].Client {
			return impl.ErrForm
		}
	}
	return impl.OK
}

// anySessions breaks a few numbers of the sessions, or none.
func anySessions(x *dice) []impl.Session {
	ends := []int64{math.MinInt64, math.MinInt64 + 1, -1 << 32, -1, 0, 1, 2, 5, 10, 11, 99, 100, 255, 256, 999, 1000, 1 << 32, math.MaxInt64 - 1, math.MaxInt64}
	list := sessionsUpTo(x.upTo(43))
	for range x.upTo(4) {
		if len(list) > 0 {
			f := sessionFields()[x.upTo(4)]
			*f.of(&list[x.upTo(int64(len(list)))]) = ends[x.upTo(int64(len(ends)))]
		}
	}
	return list
}

// Numbers of any size and sign, in lists of any length.
func TestAnyMachineIsAnswered(t *testing.T) {
	x := &dice{state: 127}
	codes := map[int64]int{}
	pools := soundPools()
	for range 20000 {
		m := impl.Machine{Pool: pools[x.upTo(int64(len(pools)))].pool, Sessions: anySessions(x)}
		code := sessionsFaultIn(m.Sessions)
		codes[code]++
		wantMachineFault(t, "any", m, code)
		e := entryOf(x.upTo(102), x.upTo(40), anyOp(x))
		at := slices.IndexFunc(m.Sessions, func(s impl.Session) bool { return s.Client == e.Client })
		if code != impl.OK {
			wantSession(t, "a fault", impl.SessionOf(m, e.Client), code, impl.Session{})
		} else if code = impl.EntryFault(e); code == impl.OK && at < 0 && len(m.Sessions) == 40 {
			code = impl.ErrMany
		}
		switch {
		case code != impl.OK:
			wantMachineCode(t, "any entry", impl.ApplyEntry(m, e), code)
		case at >= 0 && m.Sessions[at].Seq >= e.Seq:
			wantOver(t, "any entry that is over", m, e)
		default:
			wantFresh(t, "any entry", m, e)
		}
	}
	if codes[impl.OK] < 3000 || codes[impl.ErrRange] < 3000 || codes[impl.ErrForm] < 300 || codes[impl.ErrMany] < 300 {
		t.Errorf("codes %v", codes)
	}
}
