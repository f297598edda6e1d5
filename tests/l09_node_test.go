package tests

import (
	"math"
	"slices"
	"testing"

	"loop.example/g00277/impl"
)

// normalNode has no fault, is normal in the view, and has n entries. As the primary it knows of none that others have.
func normalNode(id, size, view, n int64) impl.Replica {
	r := impl.Replica{Id: id, Size: size, View: view, Normal: true, Last: view, Log: logUpTo(n)}
	if view%size == id {
		r.Oks = make([]int64, size)
	}
	return r
}

// leadingNode is the normal primary of its view, with n entries and what others are known to have.
func leadingNode(view, n int64, oks ...int64) impl.Replica {
	size := int64(len(oks))
	r := normalNode(view%size, size, view, n)
	r.Oks = oks
	return r
}

// changingNode has no fault, is not normal, and asks for its view alone.
func changingNode(id, size, view, last, n int64) impl.Replica {
	r := impl.Replica{Id: id, Size: size, View: view, Last: last, Log: logUpTo(n), Asks: make([]bool, size), Doers: make([]impl.Doer, size)}
	r.Asks[id] = true
	return r
}

// askedNode is a changingNode with other Asks.
func askedNode(id, view, last, n int64, asks ...bool) impl.Replica {
	r := changingNode(id, int64(len(asks)), view, last, n)
	r.Asks = asks
	return r
}

func doerOf(last, n, commit int64) impl.Doer {
	return impl.Doer{Known: true, Last: last, Log: logUpTo(n), Commit: commit}
}

func copyReplica(n impl.Replica) impl.Replica {
	n.Log, n.Oks, n.Asks, n.Doers = slices.Clone(n.Log), slices.Clone(n.Oks), slices.Clone(n.Asks), slices.Clone(n.Doers)
	for i := range n.Doers {
		n.Doers[i].Log = slices.Clone(n.Doers[i].Log)
	}
	return n
}

func sameDoer(a, b impl.Doer) bool {
	return a.Known == b.Known && a.Last == b.Last && slices.Equal(a.Log, b.Log) && a.Commit == b.Commit
}

func sameReplica(a, b impl.Replica) bool {
	plain := a.Id == b.Id && a.Size == b.Size && a.View == b.View && a.Normal == b.Normal && a.Last == b.Last && a.Commit == b.Commit
	return plain && slices.Equal(a.Log, b.Log) && slices.Equal(a.Oks, b.Oks) && slices.Equal(a.Asks, b.Asks) && slices.EqualFunc(a.Doers, b.Doers, sameDoer)
}

func sameMail(a, b impl.Mail) bool {
	plain := a.Kind == b.Kind && a.From == b.From && a.To == b.To && a.View == b.View && a.At == b.At
	return plain && a.Has == b.Has && a.Entry == b.Entry && a.Last == b.Last && slices.Equal(a.Log, b.Log) && a.Commit == b.Commit
}

func wantReplica(t *testing.T, name string, got impl.ReplicaResult, n impl.Replica, sent ...impl.Mail) {
	t.Helper()
	if got.Code != impl.OK || !sameReplica(got.Replica, n) {
		t.Fatalf("%s: got %v, want the replica %v", name, got, n)
	}
	if !slices.EqualFunc(got.Send, sent, sameMail) {
		t.Fatalf("%s: sent %v, want %v", name, got.Send, sent)
	}
	if code := impl.ReplicaFault(got.Replica); code != impl.OK {
		t.Fatalf("%s: the answer %v has the fault %d", name, got.Replica, code)
	}
}

func wantReplicaCode(t *testing.T, name string, got impl.ReplicaResult, code int64) {
	t.Helper()
	if got.Code != code || !sameReplica(got.Replica, impl.Replica{}) || len(got.Send) != 0 {
		t.Errorf("%s: got %v, want the code %d alone", name, got, code)
	}
}

// replicaCase has a replica and its fault.
type replicaCase struct {
	name    string
	replica impl.Replica
	code    int64
}

// replicaBreak makes a fault. One of a lower rank is told ahead of one of a greater.
type replicaBreak struct {
	name string
	rank int
	code int64
	do   func(n *impl.Replica)
}

// numberBreaks are those of the numbers of which all else hangs, and of the log and Commit.
func numberBreaks() []replicaBreak {
	var list []replicaBreak
	add := func(name string, rank int, code int64, do func(n *impl.Replica)) {
		list = append(list, replicaBreak{name, rank, code, do})
	}
	for _, bad := range append(badNumbers(1, 5), -5, 1<<32+3) {
		add("Size", 0, impl.ErrRange, func(n *impl.Replica) { n.Size = bad })
	}
	for _, end := range []int64{math.MinInt64, math.MaxInt64} {
		add("Id at an end", 0, impl.ErrRange, func(n *impl.Replica) { n.Id = end })
		add("Last at an end", 0, impl.ErrRange, func(n *impl.Replica) { n.Last = end })
		add("Commit at an end", 2, impl.ErrRange, func(n *impl.Replica) { n.Commit = end })
	}
	for _, far := range []int64{0, 1, 7, 1 << 32, math.MaxInt64 - 500} {
		add("Id below", 0, impl.ErrRange, func(n *impl.Replica) { n.Id = -1 - far })
		add("Id beyond Size", 0, impl.ErrRange, func(n *impl.Replica) { n.Id = n.Size + far })
		add("Last below", 0, impl.ErrRange, func(n *impl.Replica) { n.Last = -1 - far })
		add("Last beyond View", 0, impl.ErrRange, func(n *impl.Replica) { n.Last = n.View + 1 + far })
		add("Commit below", 2, impl.ErrRange, func(n *impl.Replica) { n.Commit = -1 - far })
		add("Commit beyond the entries", 2, impl.ErrRange, func(n *impl.Replica) { n.Commit = int64(len(n.Log)) + 1 + far })
	}
	for _, bad := range append(badNumbers(0, 200), -200) {
		add("View", 0, impl.ErrRange, func(n *impl.Replica) { n.View = bad })
		add("View, and Last as well", 0, impl.ErrRange, func(n *impl.Replica) { n.View, n.Last = bad, bad })
		add("View, and Last 0", 0, impl.ErrRange, func(n *impl.Replica) { n.View, n.Last = bad, 0 })
	}
	for _, many := range []int64{41, 42, 1000} {
		add("too many entries", 1, impl.ErrMany, func(n *impl.Replica) { n.Log = logUpTo(many) })
		add("too many entries, all wrong", 1, impl.ErrMany, func(n *impl.Replica) { n.Log = make([]impl.Entry, many) })
	}
	add("an entry that is zero", 1, impl.ErrRange, func(n *impl.Replica) { n.Log = logBut(40, 39, impl.Entry{}) })
	add("the first entry", 1, impl.ErrRange, func(n *impl.Replica) { n.Log = logBut(9, 0, entryOf(100, 1, opOf(impl.OpDelete, 1, 0, 0))) })
	add("an operation", 1, impl.ErrForm, func(n *impl.Replica) { n.Log = logBut(9, 4, entryOf(1, 1, opOf(7, 1, 0, 0))) })
	return list
}

// listBreaks make other lists than the state asks for.
func listBreaks(normal, first bool) []replicaBreak {
	var list []replicaBreak
	add := func(name string, do func(n *impl.Replica)) {
		list = append(list, replicaBreak{name, 3, impl.ErrForm, do})
	}
	if normal {
		add("normal, Last is one less", func(n *impl.Replica) { n.Last-- })
		add("normal, Last is 0", func(n *impl.Replica) { n.Last = 0 })
	}
	for many := range int64(9) {
		add("Oks", func(n *impl.Replica) {
			n.Oks = make([]int64, many)
			if normal && first && many == n.Size || (!normal || !first) && many == 0 {
				n.Oks = make([]int64, 1000)
			}
		})
		add("Asks", func(n *impl.Replica) {
			n.Asks = make([]bool, many)
			if normal && many == 0 || !normal && many == n.Size {
				n.Asks = make([]bool, 1000)
			}
		})
		add("Doers", func(n *impl.Replica) {
			n.Doers = make([]impl.Doer, many)
			if normal && many == 0 || !normal && many == n.Size {
				n.Doers = make([]impl.Doer, 1000)
			}
		})
	}
	add("Asks and Doers", func(n *impl.Replica) {
		n.Asks, n.Doers = make([]bool, n.Size), make([]impl.Doer, n.Size)
		if !normal {
			n.Asks, n.Doers = nil, nil
		}
	})
	add("Oks of numbers that are not so", func(n *impl.Replica) { n.Oks = slices.Repeat([]int64{-1}, int(n.Size)+1) })
	add("Doers that have a fault", func(n *impl.Replica) { n.Doers = slices.Repeat([]impl.Doer{{Last: -1}}, int(n.Size)+1) })
	return list
}

func okBreaks() []replicaBreak {
	var list []replicaBreak
	for at := range 5 {
		for _, far := range []int64{1, 2, 1 << 32, math.MaxInt64 - 500} {
			list = append(list, replicaBreak{"one of Oks below", 4, impl.ErrRange, func(n *impl.Replica) { n.Oks[at%len(n.Oks)] = -far }})
			list = append(list, replicaBreak{"one of Oks beyond the entries", 4, impl.ErrRange, func(n *impl.Replica) { n.Oks[at%len(n.Oks)] = int64(len(n.Log)) + far }})
		}
	}
	return list
}

type doerCase struct {
	name string
	doer impl.Doer
	code int64
}

func faultyDoers() []doerCase {
	noKind := logBut(5, 2, entryOf(1, 1, opOf(0, 1, 0, 0)))
	list := []doerCase{
		{"not Known, with a Last", impl.Doer{Last: 1}, impl.ErrForm},
		{"not Known, with a Last that is none", impl.Doer{Last: -1}, impl.ErrForm},
		{"not Known, with a Last that is too great", impl.Doer{Last: 201}, impl.ErrForm},
		{"not Known, with an entry", impl.Doer{Log: logUpTo(1)}, impl.ErrForm},
		{"not Known, with an entry that is zero", impl.Doer{Log: make([]impl.Entry, 1)}, impl.ErrForm},
		{"not Known, with too many entries", impl.Doer{Log: logUpTo(41)}, impl.ErrForm},
		{"not Known, with a Commit", impl.Doer{Commit: 1}, impl.ErrForm},
		{"not Known, with a Commit below 0", impl.Doer{Commit: -1}, impl.ErrForm},
		{"not Known, with all", impl.Doer{Last: 3, Log: logUpTo(4), Commit: 2}, impl.ErrForm},
		{"too many entries", doerOf(7, 41, 3), impl.ErrMany},
		{"too many entries, and no Commit", doerOf(7, 41, -1), impl.ErrMany},
		{"an entry that is zero", impl.Doer{Known: true, Log: make([]impl.Entry, 1)}, impl.ErrRange},
		{"no kind", impl.Doer{Known: true, Log: noKind}, impl.ErrForm},
		{"no kind, and no Commit", impl.Doer{Known: true, Log: noKind, Commit: 6}, impl.ErrForm},
		{"no Last ahead of too many entries", doerOf(201, 41, 0), impl.ErrRange},
		{"no Last ahead of no kind", impl.Doer{Known: true, Last: -1, Log: noKind}, impl.ErrRange},
		{"Commit beyond no entries", doerOf(0, 0, 1), impl.ErrRange},
	}
	for _, bad := range badNumbers(0, 200) {
		list = append(list, doerCase{"no Last", doerOf(bad, 3, 2), impl.ErrRange})
	}
	for _, n := range []int64{1, 5, 40} {
		for _, bad := range badNumbers(0, n) {
			list = append(list, doerCase{"no Commit", doerOf(9, n, bad), impl.ErrRange})
		}
	}
	return list
}

func soundDoers() []impl.Doer {
	return []impl.Doer{
		{}, {Known: true}, {Log: []impl.Entry{}}, {Known: true, Log: []impl.Entry{}}, doerOf(200, 0, 0), doerOf(0, 40, 40),
		doerOf(200, 40, 0), doerOf(199, 1, 1), doerOf(1, 39, 38), doerOf(3, 1, 0),
	}
}

func doerBreaks() []replicaBreak {
	var list []replicaBreak
	for _, c := range faultyDoers() {
		for at := range 5 {
			list = append(list, replicaBreak{"a Doer: " + c.name, 5, c.code, func(n *impl.Replica) { n.Doers[at%len(n.Doers)] = c.doer }})
		}
	}
	return list
}

// breakable is a node without a fault, and the faults that can be made of it.
type breakable struct {
	name   string
	node   impl.Replica
	breaks []replicaBreak
}

// broken has the breaks made one behind the other; its fault should be that of the last one.
func (b breakable) broken(breaks ...replicaBreak) replicaCase {
	c := replicaCase{name: b.name, replica: copyReplica(b.node)}
	for _, made := range breaks {
		made.do(&c.replica)
		c.name += ", " + made.name
		c.code = made.code
	}
	return c
}

func breakableNodes(views ...int64) []breakable {
	var list []breakable
	for size := int64(1); size <= 5; size++ {
		for _, view := range views {
			first := view % size
			other := (first + 1) % size
			list = append(list, breakable{"primary", normalNode(first, size, view, 9), slices.Concat(numberBreaks(), listBreaks(true, true), okBreaks())})
			list = append(list, breakable{"changing primary", changingNode(first, size, view, 3, 9), slices.Concat(numberBreaks(), listBreaks(false, true), doerBreaks())})
			if size > 1 {
				list = append(list, breakable{"normal", normalNode(other, size, view, 9), slices.Concat(numberBreaks(), listBreaks(true, false))})
				list = append(list, breakable{"changing", changingNode(other, size, view, 3, 9), slices.Concat(numberBreaks(), listBreaks(false, false), doerBreaks())})
			}
		}
	}
	return list
}

// faultyReplicas have one fault each.
func faultyReplicas() []replicaCase {
	var list []replicaCase
	for _, b := range breakableNodes(9, 60, 200) {
		for _, made := range b.breaks {
			list = append(list, b.broken(made))
		}
	}
	return list
}

func soundReplicas() []replicaCase {
	var list []replicaCase
	add := func(name string, n impl.Replica) { list = append(list, replicaCase{name, n, impl.OK}) }
	for size := int64(1); size <= 5; size++ {
		for id := range size {
			for _, view := range []int64{0, 1, 2, 3, 4, 5, 6, 100, 199, 200} {
				for _, n := range []int64{0, 1, 20, 40} {
					sound := normalNode(id, size, view, n)
					sound.Commit = n
					for i := range sound.Oks {
						sound.Oks[i] = n * (int64(i) % 2)
					}
					add("normal", sound)
					for _, last := range []int64{0, view / 2, view} {
						sound = changingNode(id, size, view, last, n)
						sound.Commit = n / 2
						sound.Asks[id] = view%2 == 0
						for i := range sound.Doers {
							sound.Doers[i] = soundDoers()[(int64(i)+view+n)%10]
						}
						add("changing", sound)
					}
				}
			}
		}
	}
	empty := normalNode(1, 3, 0, 0)
	empty.Log, empty.Oks, empty.Asks, empty.Doers = []impl.Entry{}, []int64{}, []bool{}, []impl.Doer{}
	add("empty lists", empty)
	return list
}

func TestReplicaFault(t *testing.T) {
	cases := append(faultyReplicas(), soundReplicas()...)
	for _, c := range cases {
		if got := impl.ReplicaFault(c.replica); got != c.code {
			t.Errorf("%s: %v: got %d, want %d", c.name, c.replica, got, c.code)
		}
	}
	if len(cases) < 3000 {
		t.Errorf("%d cases", len(cases))
	}
}

// Each fault is told ahead of all that stand behind it.
func TestReplicaFaultGoesInOrder(t *testing.T) {
	pairs := 0
	for _, b := range breakableNodes(9) {
		for _, ahead := range b.breaks {
			for _, behind := range b.breaks {
				if ahead.rank >= behind.rank {
					continue
				}
				pairs++
				c := b.broken(behind, ahead)
				if got := impl.ReplicaFault(c.replica); got != ahead.code {
					t.Fatalf("%s: %v: got %d, want %d", c.name, c.replica, got, ahead.code)
				}
			}
		}
	}
	if pairs < 10000 {
		t.Errorf("%d pairs", pairs)
	}
}

func TestReplicaFaultGoesDoerByDoer(t *testing.T) {
	for _, one := range faultyDoers() {
		for _, next := range faultyDoers() {
			for at := range 5 {
				for behind := at + 1; behind < 5; behind++ {
					n := changingNode(2, 5, 9, 3, 9)
					n.Doers[at], n.Doers[behind] = one.doer, next.doer
					if got := impl.ReplicaFault(n); got != one.code {
						t.Fatalf("%s at %d ahead of %s at %d: got %d, want %d", one.name, at, next.name, behind, got, one.code)
					}
				}
			}
		}
	}
}

func TestReplicaFaultByHand(t *testing.T) {
	for _, c := range []replicaCase{
		{"nothing", impl.Replica{}, impl.ErrRange},
		{"Size 0", impl.Replica{Normal: true}, impl.ErrRange},
		{"Size 1", leadingNode(0, 0, 0), impl.OK},
		{"Size 5", leadingNode(0, 0, 0, 0, 0, 0, 0), impl.OK},
		{"Size 6", leadingNode(0, 0, 0, 0, 0, 0, 0, 0), impl.ErrRange},
		{"the last Id", normalNode(4, 5, 0, 0), impl.OK},
		{"Id as Size", normalNode(5, 5, 0, 0), impl.ErrRange},
		{"Id -1", normalNode(-1, 5, 0, 0), impl.ErrRange},
		{"View 200", normalNode(1, 3, 200, 0), impl.OK},
		{"View 201", normalNode(1, 3, 201, 0), impl.ErrRange},
		{"View -1", normalNode(1, 3, -1, 0), impl.ErrRange},
		{"Last 0, View 0", changingNode(1, 3, 0, 0, 0), impl.OK},
		{"Last as View", changingNode(1, 3, 7, 7, 0), impl.OK},
		{"Last behind View", changingNode(1, 3, 7, 8, 0), impl.ErrRange},
		{"Last -1", changingNode(1, 3, 7, -1, 0), impl.ErrRange},
		{"40 entries", normalNode(1, 3, 0, 40), impl.OK},
		{"41 entries", normalNode(1, 3, 0, 41), impl.ErrMany},
		{"Oks as the entries", leadingNode(3, 2, 2, 2, 2), impl.OK},
		{"an Ok beyond the entries", leadingNode(3, 2, 2, 3, 2), impl.ErrRange},
		{"its own Ok beyond the entries", leadingNode(3, 2, 3, 2, 2), impl.ErrRange},
		{"an Ok below 0", leadingNode(3, 2, 2, 2, -1), impl.ErrRange},
		{"asked by nobody", askedNode(1, 7, 3, 2, false, false, false), impl.OK},
		{"asked by all", askedNode(1, 7, 3, 2, true, true, true), impl.OK},
	} {
		if got := impl.ReplicaFault(c.replica); got != c.code {
			t.Errorf("%s: got %d, want %d", c.name, got, c.code)
		}
	}
	if impl.MaxSize != 5 || impl.MaxView != 200 {
		t.Errorf("the bounds are %d and %d", impl.MaxSize, impl.MaxView)
	}
}

func TestNewReplica(t *testing.T) {
	for size := int64(1); size <= 5; size++ {
		for id := range size {
			want := impl.Replica{Id: id, Size: size, Normal: true}
			if id == 0 {
				want.Oks = make([]int64, size)
			}
			wantReplica(t, "new", impl.NewReplica(id, size), want)
		}
		for _, id := range append(badNumbers(0, size-1), -2, 5, 6) {
			wantReplicaCode(t, "no Id", impl.NewReplica(id, size), impl.ErrRange)
		}
	}
	for _, size := range append(badNumbers(1, 5), -1, -3) {
		for _, id := range []int64{math.MinInt64, -4, -1, 0, 1, 4, 5, size - 1, math.MaxInt64} {
			wantReplicaCode(t, "no Size", impl.NewReplica(id, size), impl.ErrRange)
		}
	}
}

func TestPrimaryOf(t *testing.T) {
	wantInt(t, "by hand", impl.PrimaryOf(4, 3), impl.OK, 1)
	wantInt(t, "by hand, the last view", impl.PrimaryOf(200, 3), impl.OK, 2)
	for size := int64(1); size <= 5; size++ {
		first := int64(0)
		for view := range int64(201) {
			wantInt(t, "in turn", impl.PrimaryOf(view, size), impl.OK, first)
			if first++; first == size {
				first = 0
			}
		}
		for _, view := range append(badNumbers(0, 200), -200, 205) {
			wantInt(t, "no view", impl.PrimaryOf(view, size), impl.ErrRange, 0)
		}
	}
	for _, size := range append(badNumbers(1, 5), -1, -3) {
		for _, view := range []int64{math.MinInt64, -1, 0, 1, 200, 201, math.MaxInt64} {
			wantInt(t, "no size", impl.PrimaryOf(view, size), impl.ErrRange, 0)
		}
	}
}
