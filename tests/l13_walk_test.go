package tests

import (
	"slices"
	"testing"

	"loop.example/g00277/impl"
)

// safeWalk is a cluster that came of a new one. As long as some nodes are parted, no mail comes from one side to the other.
type safeWalk struct {
	cluster impl.Cluster
	parted  int64
	// sealedIn is the view of the node that was the last one to know more to be agreed than any ahead of it.
	sealedIn int64
	begun    map[int64]bool
	seen     map[string]bool
}

func newSafeWalk(size int64) *safeWalk {
	w := &safeWalk{cluster: impl.NewCluster(size).Cluster, begun: map[int64]bool{}, seen: map[string]bool{}}
	w.note()
	return w
}

func (w *safeWalk) crosses(m impl.Mail) bool {
	return w.parted>>m.From&1 != w.parted>>m.To&1
}

// next is an act of the mix. A mail that would come to the other side is late, or lost.
func (w *safeWalk) next(x *dice, mix walkMix) clusterAct {
	a := mix.next(x, w.cluster)
	if a.kind > actKeep || !w.crosses(w.cluster.Mails[a.at]) {
		return a
	}
	if x.upTo(3) == 0 {
		return clusterAct{kind: actLose, at: a.at}
	}
	at := slices.IndexFunc(w.cluster.Mails, func(m impl.Mail) bool { return !w.crosses(m) })
	if at < 0 {
		return clusterAct{kind: actBeat, at: x.upTo(int64(len(w.cluster.Nodes)))}
	}
	return clusterAct{kind: a.kind, at: int64(at)}
}

// doer is the node that does the act. A mail that is lost is done by none, and nothing is sealed by that.
func (a clusterAct) doer(c impl.Cluster) int64 {
	if a.kind <= actLose {
		return c.Mails[a.at].To
	}
	return a.at
}

func (w *safeWalk) step(t *testing.T, a clusterAct) {
	t.Helper()
	was := w.cluster
	got := a.does(was)
	if got.Code != impl.OK {
		return
	}
	w.cluster = got.Cluster
	if len(w.cluster.Sealed) > len(was.Sealed) {
		w.sealedIn = w.cluster.Nodes[a.doer(was)].View
	}
	w.staysAgreed(t, was)
	w.note()
}

// isLeftBehind tells whether all nodes that are normal are so in views below the one in which something was sealed last: those that know of it are
// between two views. The first one of such an elder view need not know of it.
func (w *safeWalk) isLeftBehind() bool {
	view := greatestNormal(w.cluster)
	return view >= 0 && view < w.sealedIn
}

// staysAgreed asks what P14 promises behind an act.
func (w *safeWalk) staysAgreed(t *testing.T, was impl.Cluster) {
	t.Helper()
	c := w.cluster
	got := wantAudit(t, "behind an act", c)
	if got.code != impl.OK || !got.sealed || !got.logs {
		t.Fatalf("%v became %v: %+v", was, c, got)
	}
	if len(was.Sealed) > len(c.Sealed) || !slices.Equal(was.Sealed, c.Sealed[:len(was.Sealed)]) {
		t.Fatalf("%v was sealed, and %v is", was.Sealed, c.Sealed)
	}
	if !got.primaries && w.isLeftBehind() {
		w.seen["left behind"] = true
		return
	}
	if !got.primaries || !got.safe {
		t.Fatalf("%v became %v: %+v, and the last was sealed in the view %d", was, c, got, w.sealedIn)
	}
	if got.leader.Code != impl.OK {
		w.seen["no first one"] = true
		return
	}
	first := c.Nodes[got.leader.Value]
	if first.View < greatestNormal(c) {
		w.seen["a first one of an elder view"] = true
	} else if !impl.IsBeginning(c.Sealed, first.Log) {
		t.Fatalf("%v is sealed, and the first one of the greatest view is %v", c.Sealed, first)
	}
}

// note tells what the walk has come to.
func (w *safeWalk) note() {
	firsts := 0
	for _, n := range w.cluster.Nodes {
		if n.Normal && isPrimary(n) {
			firsts++
			w.begun[n.View] = true
		}
		if !n.Normal {
			w.seen["not normal"] = true
		}
	}
	w.seen["several first ones at once"] = w.seen["several first ones at once"] || firsts > 1
	w.seen["several views"] = len(w.begun) > 2
	w.seen["several sealed"] = len(w.cluster.Sealed) > 2
	w.seen["all three"] = w.seen["not normal"] && w.seen["several views"] && w.seen["several sealed"]
}

// goOn has acts of the mix done. Every now and then other nodes are parted, or none.
func (w *safeWalk) goOn(t *testing.T, x *dice, mix walkMix, parts bool) {
	t.Helper()
	for range 500 {
		if parts && x.upTo(50) == 0 {
			w.part(t, x)
		}
		w.step(t, w.next(x, mix))
	}
}

// part parts other nodes. Where they are, each first one is often asked for something that the other side does not hear, and another node is late.
func (w *safeWalk) part(t *testing.T, x *dice) {
	t.Helper()
	size := int64(len(w.cluster.Nodes))
	w.parted = x.upTo(2) * x.upTo(32)
	if w.parted == 0 || x.upTo(2) == 0 {
		return
	}
	for node, n := range w.cluster.Nodes {
		if n.Normal && isPrimary(n) {
			for range x.upTo(4) {
				w.step(t, clusterAct{kind: actAsk, at: int64(node), entry: writeEntry(x.upTo(900))})
			}
		}
	}
	w.step(t, clusterAct{kind: actTimeout, at: x.upTo(size)})
}

// Whatever is lost, late, doubled or crashes, of nodes that all hear one another, and of nodes that are parted at times.
func TestWhatWasAgreedStays(t *testing.T) {
	x := &dice{state: 131}
	for _, parts := range []bool{false, true} {
		for size := int64(1); size <= 5; size++ {
			runs, reached := 0, map[string]int{}
			for _, mix := range walkMixes(size) {
				for range 12 {
					w := newSafeWalk(size)
					w.goOn(t, x, mix, parts)
					runs++
					for name, is := range w.seen {
						if is {
							reached[name]++
						}
					}
				}
			}
			t.Logf("%d nodes, parted at times: %v: of %d runs %v", size, parts, runs, reached)
			if reached["several views"] < 35 || reached["several sealed"] < 20 || size > 1 && (reached["not normal"] < 40 || reached["all three"] < 20) {
				t.Errorf("%d nodes: too few runs came to what is asked: %v", size, reached)
			}
			if size == 3 && reached["several first ones at once"] < 20 || reached["left behind"] > 6 {
				t.Errorf("%d nodes: %v", size, reached)
			}
		}
	}
}

func TestEachViewIsSafe(t *testing.T) {
	for size := int64(1); size <= 5; size++ {
		w := newSafeWalk(size)
		all := func() {
			for len(w.cluster.Mails) > 0 {
				w.step(t, clusterAct{kind: actDeliver})
			}
		}
		for view := int64(1); view <= 200; view++ {
			first := view % size
			w.step(t, clusterAct{kind: actTimeout, at: first})
			all()
			w.step(t, clusterAct{kind: actAsk, at: first, entry: writeEntry(view)})
			all()
			wantLeader(t, "a view", w.cluster, impl.OK, first)
			if view > 40 {
				w.step(t, clusterAct{kind: actCrash, at: (first + 1) % size})
				continue
			}
			w.step(t, clusterAct{kind: actBeat, at: first})
			all()
			wantEven(t, "a view", w.cluster, true)
			wantSealed(t, "a view", w.cluster, w.cluster.Nodes[0].Log)
		}
		if len(w.begun) != 201 || len(w.cluster.Sealed) != 40 || w.seen["left behind"] {
			t.Errorf("%d nodes: %d views, %d sealed", size, len(w.begun), len(w.cluster.Sealed))
		}
	}
}

// othersGoOn is a cluster whose first node is still the first of view 0, while the others have begun view 1 and sealed an entry there.
func othersGoOn(t *testing.T, size int64, x impl.Entry) impl.Cluster {
	t.Helper()
	c := impl.NewCluster(size).Cluster
	c = allComeBut(t, impl.TimeoutAt(c, 1).Cluster, 0)
	c = allComeBut(t, impl.AskAt(c, 1, x).Cluster, 0)
	wantSealed(t, "the others", c, []impl.Entry{x})
	return c
}

// The elder one takes what it is asked, and that is never agreed.
func TestTwoFirstOnesAtOnce(t *testing.T) {
	for size := int64(3); size <= 5; size++ {
		one, lost := writeEntry(1), writeEntry(2)
		c := othersGoOn(t, size, one)
		c = impl.AskAt(c, 0, lost).Cluster
		wantThreeParts(t, "two at once", c, threeParts{true, true, true})
		wantLeader(t, "two at once", c, impl.OK, 1)
		wantEven(t, "two at once", c, false)
		c = allCome(t, c)
		wantThreeParts(t, "all mails came", c, threeParts{true, true, true})
		for range 3 {
			c = allCome(t, impl.BeatAt(c, 1).Cluster)
		}
		wantThreeParts(t, "the elder one was told", c, threeParts{true, true, true})
		wantEven(t, "the elder one was told", c, true)
		wantSealed(t, "what the elder one was asked", c, []impl.Entry{one})
	}
}

// The elder first one is asked for more than was agreed in the next view, hears of it by nobody, and then begins a view itself: the log of the greatest
// Last is taken, not the longer one.
func TestTheLongerLogOfAnElderView(t *testing.T) {
	for size := int64(3); size <= 5; size++ {
		x := writeEntry(1)
		c := othersGoOn(t, size, x)
		for i := range int64(5) {
			c = impl.AskAt(c, 0, writeEntry(10+i)).Cluster
		}
		for range size {
			c.Mails = nil
			c = impl.TimeoutAt(c, 0).Cluster
			wantThreeParts(t, "it asks for another view", c, threeParts{true, true, true})
		}
		c = allComeBut(t, c, 1)
		wantThreeParts(t, "it begins one", c, threeParts{true, true, true})
		wantLeader(t, "it begins one", c, impl.OK, 0)
		if n := c.Nodes[0]; n.View != size || !slices.Equal(n.Log, []impl.Entry{x}) {
			t.Errorf("it begins with %v", n)
		}
	}
}

// The chapter asks for the greatest View of all nodes that are normal. As long as all who know what was sealed last ask for another view, that is an
// elder one, whose first one does not have it; it has, once the others are normal again. Nothing is lost by that.
func TestTheElderFirstOneIsLeftBehind(t *testing.T) {
	for size := int64(3); size <= 5; size++ {
		x := writeEntry(1)
		c := othersGoOn(t, size, x)
		for node := int64(1); node < size; node++ {
			wantThreeParts(t, "one of the others is normal", c, threeParts{true, true, true})
			c = impl.TimeoutAt(c, node).Cluster
		}
		wantThreeParts(t, "none of them is", c, threeParts{true, true, false})
		wantLeader(t, "none of them is", c, impl.OK, 0)
		wantSealed(t, "none of them is", c, []impl.Entry{x})
		c = allComeBut(t, c, 0)
		wantThreeParts(t, "the next view is begun", c, threeParts{true, true, true})
		wantLeader(t, "the next view is begun", c, impl.OK, 2)
	}
}

func TestTheSecondOneHasAllThatWasAgreed(t *testing.T) {
	for size := int64(2); size <= 5; size++ {
		c := allCome(t, impl.AskAt(impl.NewCluster(size).Cluster, 0, writeEntry(1)).Cluster)
		c = allCome(t, impl.BeatAt(c, 0).Cluster)
		wantEven(t, "all was agreed", c, true)
		c = impl.TimeoutAt(c, 1).Cluster
		wantEven(t, "one asks for the next view", c, false)
		wantLeader(t, "one asks for the next view", c, impl.OK, 0)
		c = allCome(t, c)
		wantLeader(t, "the next view is begun", c, impl.OK, 1)
		wantThreeParts(t, "the next view is begun", c, threeParts{true, true, true})
		wantSealed(t, "the next view is begun", c, []impl.Entry{writeEntry(1)})
		for node := range size {
			c = impl.CrashAt(c, node).Cluster
			wantThreeParts(t, "a crash", c, threeParts{true, true, true})
			wantSealed(t, "a crash", c, []impl.Entry{writeEntry(1)})
			wantEven(t, "a crash", c, false)
		}
	}
}
