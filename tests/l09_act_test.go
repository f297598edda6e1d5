package tests

import (
	"testing"

	"loop.example/g00277/impl"
)

// prepareOf is what a primary of that log tells of the place, to one.
func prepareOf(n impl.Replica, to, at, commit int64) impl.Mail {
	m := impl.Mail{Kind: impl.MailPrepare, From: n.Id, To: to, View: n.View, At: at, Commit: commit}
	if at < int64(len(n.Log)) {
		m.Has, m.Entry = true, n.Log[at]
	}
	return m
}

func changeOf(from, to, view int64) impl.Mail {
	return impl.Mail{Kind: impl.MailChange, From: from, To: to, View: view}
}

func replicaCalls() map[string]func(n impl.Replica) impl.ReplicaResult {
	return map[string]func(n impl.Replica) impl.ReplicaResult{
		"AskReplica":     func(n impl.Replica) impl.ReplicaResult { return impl.AskReplica(n, writeEntry(3)) },
		"BeatReplica":    impl.BeatReplica,
		"TimeoutReplica": impl.TimeoutReplica,
		"CrashReplica":   impl.CrashReplica,
	}
}

func TestReplicaCallsTellTheReplicaFirst(t *testing.T) {
	for _, c := range faultyReplicas() {
		for name, call := range replicaCalls() {
			wantReplicaCode(t, name+", "+c.name, call(c.replica), c.code)
		}
		wantReplicaCode(t, "a faulty entry, "+c.name, impl.AskReplica(c.replica, impl.Entry{}), c.code)
		wantInt(t, c.name, impl.AgreedBy(c.replica), c.code, 0)
	}
}

func TestAgreedByHand(t *testing.T) {
	for _, c := range []struct {
		name   string
		node   impl.Replica
		agreed int64
	}{
		{"alone", leadingNode(7, 5, 0), 5},
		{"alone, with nothing", leadingNode(7, 0, 0), 0},
		{"two, the other has none", leadingNode(0, 5, 5, 0), 0},
		{"two, the other has some", leadingNode(0, 5, 0, 3), 3},
		{"two, the other has all", leadingNode(1, 5, 5, 0), 5},
		{"three, one other has some", leadingNode(0, 5, 0, 3, 0), 3},
		{"three, uneven", leadingNode(0, 5, 0, 2, 4), 4},
		{"three, none have any", leadingNode(0, 5, 5, 0, 0), 0},
		{"three, the first is not at the first place", leadingNode(2, 5, 1, 2, 0), 2},
		{"four, one other has all", leadingNode(0, 5, 5, 5, 0, 0), 0},
		{"four, two others", leadingNode(0, 5, 0, 5, 2, 0), 2},
		{"four, three others", leadingNode(0, 5, 0, 1, 2, 3), 2},
		{"five, one other has all", leadingNode(0, 5, 0, 5, 0, 0, 0), 0},
		{"five, two others", leadingNode(0, 5, 0, 0, 4, 0, 3), 3},
		{"five, all others", leadingNode(3, 9, 1, 2, 3, 0, 4), 3},
		{"five, all even", leadingNode(4, 9, 6, 6, 6, 6, 6), 6},
		{"five, all have all", leadingNode(4, 40, 40, 40, 40, 40, 40), 40},
		{"its own Ok counts for nothing", leadingNode(3, 9, 0, 2, 0), 2},
		{"its own Ok counts for nothing, also where it is all", leadingNode(3, 9, 9, 0, 2), 2},
	} {
		wantInt(t, c.name, impl.AgreedBy(c.node), impl.OK, c.agreed)
	}
}

func TestJustTheNormalPrimaryAgreesAndIsAsked(t *testing.T) {
	for size := int64(1); size <= 5; size++ {
		for id := range size {
			for view := range int64(12) {
				for name, n := range map[string]impl.Replica{"normal": normalNode(id, size, view, 40), "changing": changingNode(id, size, view, 0, 40)} {
					if name == "normal" && view%size == id {
						continue
					}
					wantInt(t, name, impl.AgreedBy(n), impl.ErrState, 0)
					wantReplicaCode(t, name, impl.AskReplica(n, writeEntry(3)), impl.ErrState)
					wantReplicaCode(t, name+", a faulty entry", impl.AskReplica(n, impl.Entry{}), impl.ErrState)
				}
			}
		}
	}
}

func TestAskReplicaCodes(t *testing.T) {
	for _, c := range faultyEntries() {
		wantReplicaCode(t, c.name, impl.AskReplica(leadingNode(3, 2, 0, 1, 2), c.entry), c.code)
		wantReplicaCode(t, c.name+", and no room", impl.AskReplica(leadingNode(3, 40, 0, 1, 2), c.entry), c.code)
	}
	for _, oks := range [][]int64{{0}, {40}, {0, 0}, {0, 40, 0}, {40, 40, 40, 40, 40}} {
		wantReplicaCode(t, "40 entries", impl.AskReplica(leadingNode(5, 40, oks...), writeEntry(1)), impl.ErrMany)
	}
	if got := impl.AskReplica(leadingNode(3, 39, 0, 39, 39), writeEntry(39)); len(got.Replica.Log) != 40 || got.Send[0].At != 39 || got.Replica.Commit != 39 {
		t.Errorf("the last entry there is room for: %v", got)
	}
}

func TestAskReplicaByHand(t *testing.T) {
	x := writeEntry(77)
	n := leadingNode(4, 3, 0, 2, 1)
	n.Commit = 1
	want := copyReplica(n)
	want.Log = append(want.Log, x)
	wantReplica(t, "one of three", impl.AskReplica(n, x), want,
		impl.Mail{Kind: 1, From: 1, To: 0, View: 4, At: 3, Has: true, Entry: x, Commit: 1},
		impl.Mail{Kind: 1, From: 1, To: 2, View: 4, At: 3, Has: true, Entry: x, Commit: 1})

	n = leadingNode(3, 3, 0, 2, 1)
	n.Commit = 1
	want = copyReplica(n)
	want.Log, want.Commit = append(want.Log, x), 2
	wantReplica(t, "more is agreed than it knew", impl.AskReplica(n, x), want,
		impl.Mail{Kind: 1, From: 0, To: 1, View: 3, At: 3, Has: true, Entry: x, Commit: 2},
		impl.Mail{Kind: 1, From: 0, To: 2, View: 3, At: 3, Has: true, Entry: x, Commit: 2})

	n = leadingNode(3, 3, 0, 2, 1)
	n.Commit = 3
	want = copyReplica(n)
	want.Log = append(want.Log, x)
	wantReplica(t, "it knew of more", impl.AskReplica(n, x), want,
		impl.Mail{Kind: 1, From: 0, To: 1, View: 3, At: 3, Has: true, Entry: x, Commit: 3},
		impl.Mail{Kind: 1, From: 0, To: 2, View: 3, At: 3, Has: true, Entry: x, Commit: 3})

	fresh := impl.NewReplica(0, 1).Replica
	want = copyReplica(fresh)
	want.Log, want.Commit = []impl.Entry{x}, 1
	wantReplica(t, "alone", impl.AskReplica(fresh, x), want)
	wantReplica(t, "the same one again", impl.AskReplica(want, x), impl.Replica{Size: 1, Normal: true, Log: []impl.Entry{x, x}, Commit: 2, Oks: []int64{0}})
}

func TestBeatOfAPrimary(t *testing.T) {
	n := leadingNode(5, 4, 4, 2, 1, 3)
	n.Commit = 1
	want := copyReplica(n)
	want.Commit = 3
	wantReplica(t, "four", impl.BeatReplica(n), want,
		impl.Mail{Kind: 1, From: 1, To: 0, View: 5, At: 4, Commit: 3},
		impl.Mail{Kind: 1, From: 1, To: 2, View: 5, At: 1, Has: true, Entry: n.Log[1], Commit: 3},
		impl.Mail{Kind: 1, From: 1, To: 3, View: 5, At: 3, Has: true, Entry: n.Log[3], Commit: 3})

	n = leadingNode(0, 4, 0, 0, 0)
	n.Commit = 4
	wantReplica(t, "it knew of more", impl.BeatReplica(n), n, prepareOf(n, 1, 0, 4), prepareOf(n, 2, 0, 4))
	n = leadingNode(200, 0, 0, 0, 0, 0, 0)
	wantReplica(t, "no entries", impl.BeatReplica(n), n, prepareOf(n, 1, 0, 0), prepareOf(n, 2, 0, 0), prepareOf(n, 3, 0, 0), prepareOf(n, 4, 0, 0))
	n = leadingNode(1, 40, 40, 39)
	want = copyReplica(n)
	want.Commit = 40
	wantReplica(t, "40 entries", impl.BeatReplica(n), want, impl.Mail{Kind: 1, From: 1, To: 0, View: 1, At: 40, Commit: 40})
	n = leadingNode(6, 3, 1)
	want = copyReplica(n)
	want.Commit = 3
	wantReplica(t, "alone", impl.BeatReplica(n), want)
}

func TestBeatOfOneThatFollows(t *testing.T) {
	for size := int64(2); size <= 5; size++ {
		for id := range size {
			n := normalNode(id, size, id+1, 7)
			n.Commit = 3
			wantReplica(t, "nothing", impl.BeatReplica(n), n)
		}
	}
}

func TestBeatOfOneThatIsNotNormal(t *testing.T) {
	tell := func(n impl.Replica, to int64) impl.Mail {
		return impl.Mail{Kind: 4, From: n.Id, To: to, View: n.View, Last: n.Last, Log: n.Log, Commit: n.Commit}
	}
	n := askedNode(0, 7, 3, 5, true, false, false)
	n.Commit = 2
	wantReplica(t, "itself alone of three", impl.BeatReplica(n), n, changeOf(0, 1, 7), changeOf(0, 2, 7))
	n = askedNode(0, 7, 3, 5, true, false, true)
	n.Commit = 2
	wantReplica(t, "two of three", impl.BeatReplica(n), n, changeOf(0, 1, 7), changeOf(0, 2, 7), tell(n, 1))
	n = askedNode(0, 7, 3, 5, false, true, true)
	n.Doers[1] = doerOf(6, 9, 9)
	wantReplica(t, "two of three, not itself", impl.BeatReplica(n), n, changeOf(0, 1, 7), changeOf(0, 2, 7), tell(n, 1))
	n = askedNode(1, 7, 3, 5, true, true, true)
	wantReplica(t, "the primary of the view", impl.BeatReplica(n), n, changeOf(1, 0, 7), changeOf(1, 2, 7))
	n = askedNode(2, 5, 0, 0, false, false, false, false)
	wantReplica(t, "nobody", impl.BeatReplica(n), n, changeOf(2, 0, 5), changeOf(2, 1, 5), changeOf(2, 3, 5))
	n = askedNode(2, 5, 0, 0, false, true, true, false)
	wantReplica(t, "just half of four", impl.BeatReplica(n), n, changeOf(2, 0, 5), changeOf(2, 1, 5), changeOf(2, 3, 5))
	n = askedNode(2, 5, 0, 0, true, true, true, false)
	wantReplica(t, "just more than half of four", impl.BeatReplica(n), n, changeOf(2, 0, 5), changeOf(2, 1, 5), changeOf(2, 3, 5), tell(n, 1))
	n = askedNode(0, 5, 4, 1, true, false)
	wantReplica(t, "just half of two", impl.BeatReplica(n), n, changeOf(0, 1, 5))
	n = askedNode(0, 5, 4, 1, true, true)
	wantReplica(t, "both of two", impl.BeatReplica(n), n, changeOf(0, 1, 5), tell(n, 1))
	n = askedNode(4, 200, 199, 40, true, false, true, false, true)
	wantReplica(t, "three of five", impl.BeatReplica(n), n, changeOf(4, 0, 200), changeOf(4, 1, 200), changeOf(4, 2, 200), changeOf(4, 3, 200), tell(n, 0))
	n = askedNode(0, 5, 4, 1, true)
	wantReplica(t, "alone", impl.BeatReplica(n), n)
	n = askedNode(0, 5, 4, 1, false)
	wantReplica(t, "alone, asked by nobody", impl.BeatReplica(n), n)
}

func TestTimeoutReplicaByHand(t *testing.T) {
	n := leadingNode(3, 4, 1, 2, 3)
	n.Commit = 2
	want := changingNode(0, 3, 4, 3, 4)
	want.Commit = 2
	wantReplica(t, "a primary", impl.TimeoutReplica(n), want, changeOf(0, 1, 4), changeOf(0, 2, 4))
	n = normalNode(1, 3, 3, 4)
	wantReplica(t, "the next primary", impl.TimeoutReplica(n), changingNode(1, 3, 4, 3, 4), changeOf(1, 0, 4), changeOf(1, 2, 4))
	n = askedNode(4, 9, 2, 4, true, true, true, true, false)
	n.Doers[3], n.Doers[4] = doerOf(8, 3, 1), doerOf(2, 4, 0)
	wantReplica(t, "once more", impl.TimeoutReplica(n), changingNode(4, 5, 10, 2, 4), changeOf(4, 0, 10), changeOf(4, 1, 10), changeOf(4, 2, 10), changeOf(4, 3, 10))
	n = normalNode(1, 2, 199, 0)
	wantReplica(t, "to the last view", impl.TimeoutReplica(n), changingNode(1, 2, 200, 199, 0), changeOf(1, 0, 200))
	alone := leadingNode(6, 3, 2)
	alone.Commit = 1
	want = leadingNode(7, 3, 0)
	want.Commit = 1
	wantReplica(t, "alone", impl.TimeoutReplica(alone), want)
	asked := askedNode(0, 6, 2, 3, false)
	asked.Doers[0] = doerOf(1, 1, 1)
	wantReplica(t, "alone and not normal", impl.TimeoutReplica(asked), leadingNode(7, 3, 0))
	for size := int64(1); size <= 5; size++ {
		for id := range size {
			wantReplicaCode(t, "the last view", impl.TimeoutReplica(normalNode(id, size, 200, 3)), impl.ErrMany)
			wantReplicaCode(t, "the last view, not normal", impl.TimeoutReplica(changingNode(id, size, 200, 7, 3)), impl.ErrMany)
		}
	}
}

func TestCrashReplicaByHand(t *testing.T) {
	n := leadingNode(4, 4, 1, 2, 3)
	n.Commit = 2
	wantReplica(t, "a primary", impl.CrashReplica(n), leadingNode(4, 4, 0, 0, 0))
	n = normalNode(2, 3, 4, 40)
	n.Commit = 40
	wantReplica(t, "one that follows", impl.CrashReplica(n), normalNode(2, 3, 4, 40))
	n = askedNode(1, 9, 2, 4, true, false, true, true, true)
	n.Commit, n.Doers[0], n.Doers[1] = 3, doerOf(8, 3, 1), doerOf(0, 0, 0)
	wantReplica(t, "one that is not normal", impl.CrashReplica(n), changingNode(1, 5, 9, 2, 4))
	n = leadingNode(9, 4, 4)
	n.Commit = 4
	wantReplica(t, "alone", impl.CrashReplica(n), leadingNode(9, 4, 0))
	n = askedNode(0, 9, 4, 4, false)
	n.Commit, n.Doers[0] = 4, doerOf(200, 40, 40)
	wantReplica(t, "alone and not normal", impl.CrashReplica(n), changingNode(0, 1, 9, 4, 4))
}
