package tests

import (
	"slices"
	"testing"

	"loop.example/g00277/impl"
)

const (
	actDeliver = iota
	actKeep
	actLose
	actAsk
	actBeat
	actTimeout
	actCrash
	manyActs
)

// clusterAct is one thing that happens in a cluster, at a place of Mails or Nodes.
type clusterAct struct {
	kind  int
	at    int64
	entry impl.Entry
}

func (a clusterAct) does(c impl.Cluster) impl.ClusterResult {
	switch a.kind {
	case actDeliver, actKeep:
		return impl.DeliverMail(c, a.at, a.kind == actKeep)
	case actLose:
		return impl.LoseMail(c, a.at)
	case actAsk:
		return impl.AskAt(c, a.at, a.entry)
	case actBeat:
		return impl.BeatAt(c, a.at)
	case actTimeout:
		return impl.TimeoutAt(c, a.at)
	}
	return impl.CrashAt(c, a.at)
}

// doneAt is the cluster then, by what the node came to and what it sent.
func doneAt(c impl.Cluster, then impl.Replica, sent []impl.Mail) impl.Cluster {
	c = withNode(c, then)
	c.Mails = append(c.Mails, firstSent(c.Mails, sent)...)
	if then.Commit > int64(len(c.Sealed)) {
		c.Sealed = nil
		for i := range then.Commit {
			c.Sealed = append(c.Sealed, then.Log[i])
		}
	}
	return c
}

// afterMail is the cluster behind a mail that is heard, or that cannot be.
func afterMail(c impl.Cluster, at int64, keep bool) impl.Cluster {
	m := c.Mails[at]
	then, sent, code := afterHear(c.Nodes[m.To], m)
	if code != impl.OK {
		return withoutMail(c, at)
	}
	if !keep {
		c = withoutMail(c, at)
	}
	return doneAt(c, then, sent)
}

// wanted is the cluster behind the act, or its code. It needs a cluster without a fault, a place, and an entry without a fault.
func (a clusterAct) wanted(c impl.Cluster) (impl.Cluster, int64) {
	var then impl.Replica
	var sent []impl.Mail
	switch a.kind {
	case actDeliver, actKeep:
		return afterMail(c, a.at, a.kind == actKeep), impl.OK
	case actLose:
		return withoutMail(c, a.at), impl.OK
	case actAsk:
		n := c.Nodes[a.at]
		if !n.Normal || !isPrimary(n) {
			return impl.Cluster{}, impl.ErrState
		}
		if len(n.Log) == 40 {
			return impl.Cluster{}, impl.ErrMany
		}
		then, sent = afterAsk(n, a.entry)
	case actBeat:
		then, sent = afterBeat(c.Nodes[a.at])
	case actTimeout:
		if c.Nodes[a.at].View == 200 {
			return impl.Cluster{}, impl.ErrMany
		}
		then, sent = afterTimeout(c.Nodes[a.at])
	case actCrash:
		then = afterCrash(c.Nodes[a.at])
	}
	return doneAt(c, then, sent), impl.OK
}

// wantAct has the act done, and asks what it comes to.
func (a clusterAct) wantAct(t *testing.T, c impl.Cluster) impl.ClusterResult {
	t.Helper()
	got := a.does(c)
	want, code := a.wanted(c)
	if code != impl.OK {
		wantClusterCode(t, "an act", got, code)
	} else {
		wantCluster(t, "an act", got, want)
	}
	return got
}

// madeCluster has no fault; its nodes need not have come of a new cluster.
func madeCluster(x *dice, size int64) impl.Cluster {
	var c impl.Cluster
	view := x.upTo(201)
	for id := range size {
		near := min(200, max(0, view-1+x.upTo(3)))
		c.Nodes = append(c.Nodes, kinNode(x, id, size, near, x.upTo(3) > 0))
	}
	many := []int64{0, 1, 3, 20, 116 + x.upTo(5), 120}[x.upTo(6)]
	for range many {
		if size > 1 {
			to := c.Nodes[x.upTo(size)]
			m := kinMail(x, to, 1+x.upTo(6), (to.Id+1+x.upTo(size-1))%size, min(200, max(0, to.View-1+x.upTo(4))))
			if x.upTo(8) == 0 {
				m = entryMail(m.From, to.Id, to.View, int64(len(to.Log)), x.upTo(41))
			}
			c.Mails = append(c.Mails, m)
		}
	}
	c.Sealed = kinLog(x, []int64{0, 1, 3, x.upTo(41), 40}[x.upTo(5)])
	return c
}

// actsIn has each kind of act at a place or a few.
func actsIn(x *dice, c impl.Cluster) []clusterAct {
	var list []clusterAct
	for node := range int64(len(c.Nodes)) {
		for kind := actAsk; kind <= actCrash; kind++ {
			list = append(list, clusterAct{kind: kind, at: node, entry: writeEntry(800 + x.upTo(9))})
		}
	}
	many := int64(len(c.Mails))
	if many == 0 {
		return list
	}
	for _, at := range []int64{0, x.upTo(many), x.upTo(many), x.upTo(many), many - 1} {
		for kind := actDeliver; kind <= actLose; kind++ {
			list = append(list, clusterAct{kind: kind, at: at})
		}
	}
	return list
}

// Whatever state the nodes are in: a cluster without a fault has none behind each act.
func TestActsOfManyClusters(t *testing.T) {
	x := &dice{state: 11}
	codes, unheard, sealed := map[int64]int{}, 0, 0
	for round := range int64(500) {
		c := madeCluster(x, 1+round%5)
		wantClusterFault(t, "made", c, impl.OK)
		for _, a := range actsIn(x, c) {
			got := a.wantAct(t, c)
			codes[got.Code]++
			if len(got.Cluster.Sealed) > len(c.Sealed) {
				sealed++
			}
			if a.kind == actKeep && len(got.Cluster.Mails) < len(c.Mails) {
				unheard++
			}
		}
	}
	if codes[impl.OK] < 8000 || codes[impl.ErrState] < 800 || codes[impl.ErrMany] < 30 || sealed < 500 || unheard < 10 {
		t.Errorf("codes %v, sealed %d times, %d mails that cannot be heard", codes, sealed, unheard)
	}
}

// walkMix tells how often what happens, of all. Of more nodes more has to be delivered until something comes of it.
type walkMix struct {
	name  string
	parts [manyActs]int64
}

func walkMixes(size int64) []walkMix {
	return []walkMix{
		{"calm", [manyActs]int64{actDeliver: 40 * size, actKeep: 2, actLose: 2, actAsk: 14, actBeat: 8, actTimeout: 1, actCrash: 1}},
		{"rough", [manyActs]int64{actDeliver: 30 * size, actKeep: 15, actLose: 15, actAsk: 15, actBeat: 10, actTimeout: 2, actCrash: 4}},
		{"crowded", [manyActs]int64{actDeliver: 15 * size, actKeep: 15 * size, actLose: 1, actAsk: 15, actBeat: 20, actTimeout: 1, actCrash: 2}},
		{"restless", [manyActs]int64{actDeliver: 40 * size, actKeep: 5, actLose: 5, actAsk: 15, actBeat: 5, actTimeout: 6, actCrash: 5}},
	}
}

// next is an act that can be told: without mails there is none to come.
func (mix walkMix) next(x *dice, c impl.Cluster) clusterAct {
	all := int64(0)
	for _, part := range mix.parts {
		all += part
	}
	a := clusterAct{at: x.upTo(int64(len(c.Nodes))), entry: entryOf(1+x.upTo(99), 1+x.upTo(999), anyOp(x))}
	for rest := x.upTo(all); rest >= mix.parts[a.kind]; a.kind++ {
		rest -= mix.parts[a.kind]
	}
	many := int64(len(c.Mails))
	if a.kind <= actLose && many == 0 {
		a.kind = []int{actAsk, actAsk, actAsk, actBeat, actTimeout}[x.upTo(5)]
	} else if a.kind <= actLose {
		a.at = []int64{0, 0, x.upTo(min(many, 10)), x.upTo(many), many - 1}[x.upTo(5)]
	}
	return a
}

// clusterWalk is a cluster that came of a new one, and the greatest Commit that a node ever had.
type clusterWalk struct {
	cluster  impl.Cluster
	greatest int64
	seen     map[string]int
}

// step has one act done. One with a code changes nothing: the walk goes on from where it was.
func (w *clusterWalk) step(t *testing.T, a clusterAct) {
	t.Helper()
	was := w.cluster
	got := a.wantAct(t, was)
	if got.Code != impl.OK {
		w.seen["codes"]++
		return
	}
	w.cluster = got.Cluster
	w.nothingIsLess(t, was)
	w.count(was, a)
}

// nothingIsLess asks what P12 promises, by the document's own words.
func (w *clusterWalk) nothingIsLess(t *testing.T, was impl.Cluster) {
	t.Helper()
	c := w.cluster
	if code := impl.ClusterFault(c); code != impl.OK || len(c.Mails) > 120 || len(c.Nodes) != len(was.Nodes) {
		t.Fatalf("%v became %v, with the fault %d", was, c, code)
	}
	for _, n := range c.Nodes {
		w.greatest = max(w.greatest, n.Commit)
	}
	if int64(len(c.Sealed)) != w.greatest {
		t.Fatalf("%d are sealed, and the greatest Commit was %d", len(c.Sealed), w.greatest)
	}
	if len(was.Sealed) > len(c.Sealed) || !slices.Equal(was.Sealed, c.Sealed[:len(was.Sealed)]) {
		t.Fatalf("%v was sealed, and %v is", was.Sealed, c.Sealed)
	}
	for id, n := range c.Nodes {
		if !slices.Equal(n.Log[:n.Commit], c.Sealed[:n.Commit]) {
			t.Fatalf("%v is sealed, and the node %d is %v", c.Sealed, id, n)
		}
		if n.View < was.Nodes[id].View {
			t.Fatalf("%v became %v", was.Nodes[id], n)
		}
	}
}

// count tells what the walk came to, so that it is known to have come about.
func (w *clusterWalk) count(was impl.Cluster, a clusterAct) {
	if len(w.cluster.Mails) == 120 && len(was.Mails) < 120 {
		w.seen["full"]++
	}
	if len(w.cluster.Sealed) > len(was.Sealed) {
		w.seen["sealed"]++
	}
	if a.kind == actCrash && was.Nodes[a.at].Commit > 0 {
		w.seen["crashes"]++
	}
	for id, n := range w.cluster.Nodes {
		if beginsBy(was.Nodes[id], n) {
			w.seen["begun"]++
			if len(w.cluster.Sealed) > 0 {
				w.seen["begun with something sealed"]++
			}
		}
	}
}

// From a new cluster on, whatever is lost, late, doubled or crashes.
func TestClusterWalk(t *testing.T) {
	x := &dice{state: 1111}
	for size := int64(1); size <= 5; size++ {
		for _, mix := range walkMixes(size) {
			seen := map[string]int{}
			for range 24 {
				w := &clusterWalk{cluster: impl.NewCluster(size).Cluster, seen: seen}
				for range 600 {
					w.step(t, mix.next(x, w.cluster))
				}
			}
			if seen["sealed"] < 20 || seen["begun"] < 10 || seen["begun with something sealed"] < 5 || seen["crashes"] < 5 {
				t.Errorf("%s, of %d nodes: %v", mix.name, size, seen)
			}
			if mix.name == "crowded" && size > 2 && seen["full"] < 20 {
				t.Errorf("%s, of %d nodes: %v", mix.name, size, seen)
			}
		}
	}
}

// Nothing is lost and nobody is late: all that is asked is sealed, up to the most that a log may have.
func TestAllThatIsAskedIsSealed(t *testing.T) {
	for size := int64(1); size <= 5; size++ {
		c := impl.NewCluster(size).Cluster
		for i := range int64(40) {
			c = allCome(t, impl.AskAt(c, 0, writeEntry(i)).Cluster)
			if !slices.Equal(c.Sealed, logUpTo(i+1)) {
				t.Fatalf("of %d nodes: %d were asked, %v is sealed", size, i+1, c.Sealed)
			}
		}
		wantClusterCode(t, "one more", impl.AskAt(c, 0, writeEntry(40)), impl.ErrMany)
	}
}

// Each node in turn becomes the first of a view, up to the last one, and something is sealed in each view, as long as there is room.
func TestViewsUpToTheLastOne(t *testing.T) {
	for size := int64(1); size <= 5; size++ {
		w := &clusterWalk{cluster: impl.NewCluster(size).Cluster, seen: map[string]int{}}
		for view := int64(1); view <= 200; view++ {
			first := view % size
			w.step(t, clusterAct{kind: actTimeout, at: first})
			for len(w.cluster.Mails) > 0 {
				w.step(t, clusterAct{kind: actDeliver})
			}
			w.step(t, clusterAct{kind: actAsk, at: first, entry: writeEntry(view)})
			for len(w.cluster.Mails) > 0 {
				w.step(t, clusterAct{kind: actDeliver})
			}
			if n := w.cluster.Nodes[first]; n.View != view || !n.Normal || int64(len(w.cluster.Sealed)) != min(view, 40) {
				t.Fatalf("the view %d of %d nodes: %v", view, size, w.cluster)
			}
		}
		for node := range size {
			wantClusterCode(t, "behind the last view", impl.TimeoutAt(w.cluster, node), impl.ErrMany)
		}
	}
}

// Half of the nodes are not enough: what they know of alone is not sealed.
func TestHalfOfTheNodesSealNothing(t *testing.T) {
	for size := int64(2); size <= 5; size++ {
		c := impl.AskAt(impl.NewCluster(size).Cluster, 0, writeEntry(1)).Cluster
		for range 400 {
			at := slices.IndexFunc(c.Mails, func(m impl.Mail) bool { return max(m.From, m.To) < size/2 })
			if at < 0 {
				c = impl.BeatAt(c, 0).Cluster
				continue
			}
			c = impl.DeliverMail(c, int64(at), false).Cluster
			if len(c.Sealed) != 0 {
				t.Fatalf("of %d nodes: %v is sealed", size, c.Sealed)
			}
		}
	}
}
