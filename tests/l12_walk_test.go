package tests

import (
	"slices"
	"testing"

	"loop.example/g00277/impl"
)

// machineWalk is a machine, and beside it what must be read in its volumes and what each client was told last.
type machineWalk struct {
	machine  impl.Machine
	pool     poolWalk
	sessions map[int64]impl.Session
	replies  map[int64]int
	repeats  int
}

func newMachineWalk(blocks int64) *machineWalk {
	pool := poolWalk{pool: impl.NewPool(blocks).Pool, vols: map[int64]walkVol{}}
	return &machineWalk{machine: impl.NewMachine(blocks).Machine, pool: pool, sessions: map[int64]impl.Session{}, replies: map[int64]int{}}
}

// wanted is what the entry must be told, by what the client was told last and by the tables.
func (w *machineWalk) wanted(x impl.Entry) machineAnswer {
	s, has := w.sessions[x.Client]
	switch {
	case has && s.Seq == x.Seq:
		return machineAnswer{reply: s.Reply, value: s.Value}
	case has && s.Seq > x.Seq:
		return machineAnswer{reply: impl.ErrState}
	}
	told := machineAnswer{reply: w.pool.reply(x.Op), fresh: true}
	if told.reply == impl.OK && x.Op.Kind == impl.OpRead {
		told.value = w.pool.vols[x.Op.Vol].cells[x.Op.At]
	}
	return told
}

// listed are the sessions, rising by client.
func (w *machineWalk) listed() []impl.Session {
	var list []impl.Session
	for client := int64(1); client <= 99; client++ {
		if s, has := w.sessions[client]; has {
			list = append(list, s)
		}
	}
	return list
}

// do has an entry done, and asks what P13 promises of it: asked again, and asked with a Seq below, it changes nothing.
func (w *machineWalk) do(t *testing.T, x impl.Entry) machineAnswer {
	t.Helper()
	told := w.wanted(x)
	if told.fresh {
		w.pool.do(t, x.Op)
		w.sessions[x.Client] = impl.Session{Client: x.Client, Seq: x.Seq, Reply: told.reply, Value: told.value}
		w.replies[told.reply]++
	} else {
		w.repeats++
	}
	want := impl.Machine{Pool: w.pool.pool, Sessions: w.listed()}
	got := impl.ApplyEntry(w.machine, x)
	wantMachine(t, "an entry", got, told, want)
	w.machine = got.Machine
	again := impl.ApplyEntry(w.machine, x)
	wantMachine(t, "the same entry again", again, machineAnswer{told.reply, told.value, false}, want)
	if !impl.SameMachines(again.Machine, got.Machine) {
		t.Fatalf("%v and %v are not told to be the same", again.Machine, got.Machine)
	}
	w.wantOver(t, x)
	return told
}

// wantOver asks that all Seqs below that of the session are over, at a few of them.
func (w *machineWalk) wantOver(t *testing.T, x impl.Entry) {
	t.Helper()
	last := w.sessions[x.Client].Seq
	for _, seq := range []int64{1, last / 2, last - 1} {
		if x.Seq = seq; seq >= 1 && seq < last {
			wantMachine(t, "a Seq below", impl.ApplyEntry(w.machine, x), machineAnswer{reply: impl.ErrState}, w.machine)
		}
	}
}

// anyEntries has n entries of a few clients: most of a Seq above the last one, some the same again, some of a Seq below.
func anyEntries(x *dice, n int64) []impl.Entry {
	clients := []int64{1, 2, 7, 50, 98, 99}[:1+x.upTo(6)]
	lasts := map[int64]int64{}
	list := []impl.Entry{entryOf(clients[0], 1, opOf(impl.OpCreate, 1, 0, 1+x.upTo(16))), entryOf(clients[0], 2, opOf(impl.OpCreate, 2, 0, 3))}
	lasts[clients[0]] = 2
	for int64(len(list)) < n {
		client := clients[x.upTo(int64(len(clients)))]
		o := anyOp(x)
		if x.upTo(3) > 0 {
			o.Vol = 1 + x.upTo(2)
		} else if x.upTo(3) == 0 {
			o = opOf(impl.OpSnap, 1, 0, 1+x.upTo(99))
		}
		seq := lasts[client] + 1 + x.upTo(2)*x.upTo(20)
		switch x.upTo(8) {
		case 0:
			list = append(list, list[x.upTo(int64(len(list)))])
			continue
		case 1:
			seq = max(1, lasts[client]-x.upTo(4))
		}
		lasts[client] = max(lasts[client], seq)
		list = append(list, entryOf(client, seq, o))
	}
	return list[:n]
}

// Over many lists of entries of several clients, with few blocks and with many: entry by entry beside a model.
func TestMachineWalk(t *testing.T) {
	x := &dice{state: 121}
	replies, repeats := map[int64]int{}, 0
	for round := range int64(400) {
		blocks := []int64{0, 1, 3, 8, 24}[round%5]
		w := newMachineWalk(blocks)
		var told []int64
		list := anyEntries(x, x.upTo(41))
		var last machineAnswer
		for i, e := range list {
			last = w.do(t, e)
			told = append(told, last.reply*256+last.value)
			wantInts(t, "RepliesOf", impl.RepliesOf(blocks, list[:i+1]), impl.OK, told)
		}
		w.pool.check(t)
		wantMachine(t, "RunEntries", impl.RunEntries(blocks, list), machineAnswer{last.reply, last.value, false}, w.machine)
		for reply, n := range w.replies {
			replies[reply] += n
		}
		repeats += w.repeats
	}
	for _, reply := range []int64{impl.OK, impl.ErrNone, impl.ErrTaken, impl.ErrFull, impl.ErrQuota, impl.ErrMany} {
		if replies[reply] < 5 {
			t.Errorf("the Reply %d came %d times", reply, replies[reply])
		}
	}
	if repeats < 200 {
		t.Errorf("%d entries were not done", repeats)
	}
}

// A walk that is longer than a log may be, of as many clients as there may be.
func TestALongMachineWalk(t *testing.T) {
	x := &dice{state: 122}
	w := newMachineWalk(16)
	for range 3000 {
		client := 1 + 2*x.upTo(40)
		seq := min(999, max(1, w.sessions[client].Seq-1+x.upTo(6)))
		w.do(t, entryOf(client, seq, anyOp(x)))
	}
	w.pool.check(t)
	if len(w.machine.Sessions) != 40 || len(w.replies) < 6 || w.repeats < 500 {
		t.Errorf("%d sessions, the replies %v, %d repeats", len(w.machine.Sessions), w.replies, w.repeats)
	}
	for client := int64(2); client <= 98; client += 2 {
		wantMachineCode(t, "one more client", impl.ApplyEntry(w.machine, entryOf(client, 1, anyOp(x))), impl.ErrMany)
	}
}

// wantParts cuts the list at each place: the first part run, the rest done behind it, comes to what the list comes to in one.
func wantParts(t *testing.T, blocks int64, list []impl.Entry) {
	t.Helper()
	whole, told := impl.RunEntries(blocks, list), impl.RepliesOf(blocks, list).List
	if whole.Code != impl.OK || len(told) != len(list) {
		t.Fatalf("%v: got %v, told %v", list, whole, told)
	}
	for cut := range len(list) + 1 {
		got := impl.RunEntries(blocks, list[:cut])
		if head := impl.RepliesOf(blocks, list[:cut]).List; !slices.Equal(head, told[:cut]) {
			t.Fatalf("the first %d are told %v, all %v", cut, head, told)
		}
		for i, e := range list[cut:] {
			got = impl.ApplyEntry(got.Machine, e)
			if got.Code != impl.OK || got.Reply*256+got.Value != told[cut+i] {
				t.Fatalf("cut at %d, the entry %d: got %v, want %d", cut, cut+i, got, told[cut+i])
			}
		}
		if !impl.SameMachines(got.Machine, whole.Machine) || !sameMachine(got.Machine, whole.Machine) || got.Reply != whole.Reply || got.Value != whole.Value {
			t.Fatalf("cut at %d: got %v, want %v", cut, got, whole)
		}
	}
}

func TestInTwoParts(t *testing.T) {
	x := &dice{state: 123}
	for round := range int64(60) {
		wantParts(t, []int64{0, 1, 3, 8, 24}[round%5], anyEntries(x, x.upTo(41)))
	}
	wantParts(t, 8, nil)
	wantParts(t, 8, anyEntries(x, 1))
	wantParts(t, 8, logUpTo(40))
}

// A list whose entries are all asked twice in a row, or three times, comes to what it comes to once.
func TestAllAskedTwice(t *testing.T) {
	x := &dice{state: 124}
	for round := range int64(60) {
		blocks := []int64{0, 1, 3, 8, 24}[round%5]
		for _, times := range []int{2, 3} {
			list := anyEntries(x, x.upTo(int64(40/times)+1))
			var often []impl.Entry
			var told []int64
			for i, reply := range impl.RepliesOf(blocks, list).List {
				often = append(often, slices.Repeat(list[i:i+1], times)...)
				told = append(told, slices.Repeat([]int64{reply}, times)...)
			}
			once, all := impl.RunEntries(blocks, list), impl.RunEntries(blocks, often)
			if !impl.SameMachines(once.Machine, all.Machine) || once.Reply != all.Reply || once.Value != all.Value || len(often) != times*len(list) {
				t.Fatalf("%v: once %v, %d times %v", list, once, times, all)
			}
			wantInts(t, "often", impl.RepliesOf(blocks, often), impl.OK, told)
		}
	}
}

// A list that is asked whole once more changes nothing: the last one of each client is told again, the others are over.
func TestAWholeListOnceMore(t *testing.T) {
	x := &dice{state: 125}
	for round := range int64(60) {
		blocks := []int64{0, 1, 3, 8, 24}[round%5]
		list := anyEntries(x, x.upTo(21))
		once, twice := impl.RunEntries(blocks, list), impl.RunEntries(blocks, slices.Concat(list, list))
		if twice.Code != impl.OK || !impl.SameMachines(once.Machine, twice.Machine) {
			t.Fatalf("%v: once %v, twice %v", list, once, twice)
		}
		told := impl.RepliesOf(blocks, slices.Concat(list, list)).List[len(list):]
		for i, e := range list {
			want := int64(256 * impl.ErrState)
			if s := impl.SessionOf(once.Machine, e.Client).Session; s.Seq == e.Seq {
				want = s.Reply*256 + s.Value
			}
			if told[i] != want {
				t.Fatalf("%v at %d: told %d, want %d", list, i, told[i], want)
			}
		}
	}
}

// The order in which clients ask counts for the pool; of one client a Seq that comes late is not done.
func TestEntriesThatComeLate(t *testing.T) {
	create, write, remove := opOf(impl.OpCreate, 1, 0, 2), opOf(impl.OpWrite, 1, 0, 9), opOf(impl.OpDelete, 1, 0, 0)
	list := []impl.Entry{entryOf(4, 10, create), entryOf(4, 30, write), entryOf(4, 20, remove), entryOf(4, 29, remove), entryOf(5, 1, opOf(impl.OpRead, 1, 0, 0))}
	wantInts(t, "late", impl.RepliesOf(4, list), impl.OK, []int64{0, 0, 256 * impl.ErrState, 256 * impl.ErrState, 9})
	list = append(list, entryOf(4, 31, remove), entryOf(5, 2, opOf(impl.OpRead, 1, 0, 0)))
	wantInts(t, "in time", impl.RepliesOf(4, list), impl.OK, []int64{0, 0, 256 * impl.ErrState, 256 * impl.ErrState, 9, 0, 256 * impl.ErrNone})
}
