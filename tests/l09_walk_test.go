package tests

import (
	"slices"
	"testing"

	"loop.example/g00277/impl"
)

// anyLogOf has n entries without a fault.
func anyLogOf(x *dice, n int64) []impl.Entry {
	var log []impl.Entry
	for range n {
		log = append(log, entryOf(1+x.upTo(99), 1+x.upTo(999), anyOp(x)))
	}
	return log
}

func anyLength(x *dice) int64 {
	return []int64{0, 1, 2, 3, 39, 40, x.upTo(41)}[x.upTo(7)]
}

// anyOks are even, uneven, all 0 or all the length.
func anyOks(x *dice, size, length int64) []int64 {
	oks := make([]int64, size)
	even := x.upTo(length + 1)
	how := x.upTo(5)
	for i := range oks {
		oks[i] = []int64{0, length, even, x.upTo(length + 1), x.upTo(min(length, 3) + 1)}[how]
	}
	return oks
}

// anyAsks are of a number of nodes, whoever these are.
func anyAsks(x *dice, size int64) []bool {
	asks := make([]bool, size)
	for range x.upTo(size + 1) {
		at := x.upTo(size)
		for asks[at] {
			at = (at + 1) % size
		}
		asks[at] = true
	}
	return asks
}

func anyDoers(x *dice, size int64) []impl.Doer {
	doers := make([]impl.Doer, size)
	for i := range doers {
		if x.upTo(2) == 0 {
			n := anyLength(x)
			doers[i] = impl.Doer{Known: true, Last: x.upTo(201), Log: anyLogOf(x, n), Commit: x.upTo(n + 1)}
		}
	}
	return doers
}

// anyNode has no fault.
func anyNode(x *dice, id, size, view int64, normal bool) impl.Replica {
	length := anyLength(x)
	n := impl.Replica{Id: id, Size: size, View: view, Normal: normal, Last: view, Log: anyLogOf(x, length), Commit: x.upTo(length + 1)}
	if !normal {
		n.Last, n.Asks, n.Doers = x.upTo(view+1), anyAsks(x, size), anyDoers(x, size)
	} else if view%size == id {
		n.Oks = anyOks(x, size, length)
	}
	return n
}

// eachNode has nodes of each Size, Id and View, normal and not.
func eachNode(yield func(x *dice, n impl.Replica) bool) {
	x := &dice{state: 9}
	for size := int64(1); size <= 5; size++ {
		for id := range size {
			for view := range int64(201) {
				for _, normal := range []bool{true, false} {
					if !yield(x, anyNode(x, id, size, view, normal)) {
						return
					}
				}
			}
		}
	}
}

// agreedIn counts for each number from the greatest on who has as many entries.
func agreedIn(n impl.Replica) int64 {
	for k := int64(len(n.Log)); ; k-- {
		count := int64(1)
		for id, ok := range n.Oks {
			if int64(id) != n.Id && ok >= k {
				count++
			}
		}
		if count > n.Size-count {
			return k
		}
	}
}

// toOthers has a mail to each other one, rising.
func toOthers(n impl.Replica, mail func(to int64) impl.Mail) []impl.Mail {
	var list []impl.Mail
	for to := range n.Size {
		if to != n.Id {
			list = append(list, mail(to))
		}
	}
	return list
}

// afterAsk is what the normal primary is then, and sends.
func afterAsk(n impl.Replica, x impl.Entry) (impl.Replica, []impl.Mail) {
	at := int64(len(n.Log))
	n = copyReplica(n)
	n.Log = append(n.Log, x)
	n.Commit = max(n.Commit, agreedIn(n))
	return n, toOthers(n, func(to int64) impl.Mail { return prepareOf(n, to, at, n.Commit) })
}

func afterBeat(n impl.Replica) (impl.Replica, []impl.Mail) {
	n = copyReplica(n)
	if n.Normal && n.View%n.Size == n.Id {
		n.Commit = max(n.Commit, agreedIn(n))
		return n, toOthers(n, func(to int64) impl.Mail { return prepareOf(n, to, n.Oks[to], n.Commit) })
	}
	if n.Normal {
		return n, nil
	}
	sent := toOthers(n, func(to int64) impl.Mail { return changeOf(n.Id, to, n.View) })
	asking := slices.DeleteFunc(slices.Clone(n.Asks), func(asks bool) bool { return !asks })
	if first := n.View % n.Size; first != n.Id && len(asking) > int(n.Size)-len(asking) {
		sent = append(sent, impl.Mail{Kind: impl.MailDo, From: n.Id, To: first, View: n.View, Last: n.Last, Log: n.Log, Commit: n.Commit})
	}
	return n, sent
}

func afterTimeout(n impl.Replica) (impl.Replica, []impl.Mail) {
	if n.Size == 1 {
		return impl.Replica{Size: 1, View: n.View + 1, Normal: true, Last: n.View + 1, Log: n.Log, Commit: n.Commit, Oks: []int64{0}}, nil
	}
	then := impl.Replica{Id: n.Id, Size: n.Size, View: n.View + 1, Last: n.Last, Log: n.Log, Commit: n.Commit}
	then.Asks, then.Doers = make([]bool, n.Size), make([]impl.Doer, n.Size)
	then.Asks[n.Id] = true
	return then, toOthers(n, func(to int64) impl.Mail { return changeOf(n.Id, to, n.View+1) })
}

func afterCrash(n impl.Replica) impl.Replica {
	then := impl.Replica{Id: n.Id, Size: n.Size, View: n.View, Normal: n.Normal, Last: n.Last, Log: n.Log}
	then.Oks, then.Asks, then.Doers = make([]int64, len(n.Oks)), make([]bool, len(n.Asks)), make([]impl.Doer, len(n.Doers))
	if !n.Normal {
		then.Asks[n.Id] = true
	}
	return then
}

// wantHeard asks that what is sent can be heard by whom it is for.
func wantHeard(t *testing.T, name string, n impl.Replica, got impl.ReplicaResult) {
	t.Helper()
	if code := impl.ReplicaFault(got.Replica); got.Code == impl.OK && code != impl.OK {
		t.Fatalf("%s of %v: the answer %v has the fault %d", name, n, got.Replica, code)
	}
	for _, m := range got.Send {
		if m.From != n.Id || m.To == n.Id || m.To < 0 || m.To >= n.Size {
			t.Fatalf("%s of %v: a mail from %d to %d", name, n, m.From, m.To)
		}
		if code := impl.MailFault(impl.NewReplica(m.To, n.Size).Replica, m); code != impl.OK {
			t.Fatalf("%s of %v: the mail %v has the fault %d", name, n, m, code)
		}
	}
}

func TestJustThePrimaryTakesWhatIsAskedAndTellsAllOthers(t *testing.T) {
	taken, refused, full := 0, 0, 0
	for x, n := range eachNode {
		if code := impl.ReplicaFault(n); code != impl.OK {
			t.Fatalf("%v has the fault %d", n, code)
		}
		entry := entryOf(1+x.upTo(99), 1+x.upTo(999), anyOp(x))
		got := impl.AskReplica(n, entry)
		wantHeard(t, "AskReplica", n, got)
		switch {
		case !n.Normal || n.View%n.Size != n.Id:
			refused++
			wantReplicaCode(t, "another one", got, impl.ErrState)
		case len(n.Log) == 40:
			full++
			wantReplicaCode(t, "no room", got, impl.ErrMany)
		default:
			taken++
			want, sent := afterAsk(n, entry)
			wantReplica(t, "the primary", got, want, sent...)
			if int64(len(got.Send)) != n.Size-1 || got.Replica.Log[len(n.Log)] != entry {
				t.Fatalf("%v: got %v", n, got)
			}
		}
	}
	if taken < 500 || refused < 3000 || full < 100 {
		t.Errorf("%d taken, %d refused, %d full", taken, refused, full)
	}
}

func TestBeatsOfManyNodes(t *testing.T) {
	kinds := map[int64]int{}
	for _, n := range eachNode {
		got := impl.BeatReplica(n)
		wantHeard(t, "BeatReplica", n, got)
		want, sent := afterBeat(n)
		wantReplica(t, "BeatReplica", got, want, sent...)
		for _, m := range got.Send {
			kinds[m.Kind]++
		}
	}
	if kinds[impl.MailPrepare] < 1000 || kinds[impl.MailChange] < 1000 || kinds[impl.MailDo] < 500 || len(kinds) != 3 {
		t.Errorf("mails by kind: %v", kinds)
	}
}

func TestTimeoutsOfManyNodes(t *testing.T) {
	for _, n := range eachNode {
		got := impl.TimeoutReplica(n)
		wantHeard(t, "TimeoutReplica", n, got)
		if n.View == 200 {
			wantReplicaCode(t, "the last view", got, impl.ErrMany)
			continue
		}
		want, sent := afterTimeout(n)
		wantReplica(t, "TimeoutReplica", got, want, sent...)
	}
}

func TestCrashesOfManyNodes(t *testing.T) {
	for _, n := range eachNode {
		got := impl.CrashReplica(n)
		wantReplica(t, "CrashReplica", got, afterCrash(n))
		wantReplica(t, "twice", impl.CrashReplica(got.Replica), got.Replica)
	}
}

func TestAgreedByManyNodes(t *testing.T) {
	x := &dice{state: 99}
	seen := map[int64]int{}
	for range 30000 {
		size := 1 + x.upTo(5)
		view := x.upTo(201)
		n := anyNode(x, view%size, size, view, true)
		agreed := agreedIn(n)
		seen[agreed]++
		wantInt(t, "any Oks", impl.AgreedBy(n), impl.OK, agreed)
	}
	for k := range int64(41) {
		if seen[k] < 20 {
			t.Errorf("%d was agreed %d times", k, seen[k])
		}
	}
}

// Each list of Oks up to 3, with each number of entries up to 4.
func TestAgreedByEachOks(t *testing.T) {
	for size := int64(1); size <= 5; size++ {
		for code := range int64(1) << (2 * size) {
			oks := make([]int64, size)
			for i := range oks {
				oks[i] = code >> (2 * i) & 3
			}
			for first := range size {
				for length := slices.Max(oks); length <= 4; length++ {
					n := leadingNode(first, length, oks...)
					wantInt(t, "each Oks", impl.AgreedBy(n), impl.OK, agreedIn(n))
				}
			}
		}
	}
}

// From a new node on, one act behind the other: whatever it does it has no fault, and its view and log do not become less.
func TestNodeWalk(t *testing.T) {
	x := &dice{state: 999}
	for size := int64(1); size <= 5; size++ {
		for id := range size {
			n := impl.NewReplica(id, size).Replica
			for range 400 {
				var got impl.ReplicaResult
				switch k := x.upTo(10); {
				case k < 5:
					got = impl.AskReplica(n, entryOf(1+x.upTo(99), 1+x.upTo(999), anyOp(x)))
				case k < 8:
					got = impl.BeatReplica(n)
				case k < 9:
					got = impl.TimeoutReplica(n)
				default:
					got = impl.CrashReplica(n)
				}
				wantHeard(t, "an act", n, got)
				if got.Code != impl.OK {
					continue
				}
				if got.Replica.View < n.View || got.Replica.Last < n.Last || !impl.IsBeginning(n.Log, got.Replica.Log) {
					t.Fatalf("%v became %v", n, got.Replica)
				}
				n = got.Replica
			}
		}
	}
}
