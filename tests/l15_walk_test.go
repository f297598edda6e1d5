package tests

import (
	"slices"
	"testing"

	"loop.example/g00277/impl"
)

// mostActs is how many acts a cluster may have come of, so that there is room for mails.
const mostActs = 46

// fewActMixes are as walkMixes, for walks of which each act counts.
func fewActMixes(size int64) []walkMix {
	return []walkMix{
		{"calm", [manyActs]int64{actDeliver: 30 * size, actKeep: 2, actLose: 2, actAsk: 14, actBeat: 8, actTimeout: 4, actCrash: 3}},
		{"rough", [manyActs]int64{actDeliver: 20 * size, actKeep: 10, actLose: 20, actAsk: 20, actBeat: 12, actTimeout: 8, actCrash: 6}},
		{"parted", [manyActs]int64{actDeliver: 30 * size, actKeep: 2, actLose: 2, actAsk: 20, actBeat: 3, actTimeout: 4, actCrash: 6}},
		{"crowded", [manyActs]int64{actDeliver: 1, actKeep: 6, actLose: 0, actAsk: 50, actBeat: 50, actTimeout: 2, actCrash: 1}},
		{"restless", [manyActs]int64{actDeliver: 25 * size, actKeep: 5, actLose: 5, actAsk: 15, actBeat: 5, actTimeout: 25, actCrash: 5}},
	}
}

// drivenWalk is a cluster that came of a new one by a few acts, and is let go on then.
type drivenWalk struct {
	*safeWalk
	left, lost int64
}

// actsOf has so many acts done, of which those with a code change nothing.
func actsOf(x *dice, size, acts int64, mix walkMix) *drivenWalk {
	w := &drivenWalk{safeWalk: newSafeWalk(size), left: acts}
	if mix.name == "parted" {
		w.goApart(x)
	}
	for w.left > 0 {
		if x.upTo(30) == 0 {
			w.parted = x.upTo(2) * x.upTo(32)
		}
		if mix.name == "crowded" {
			w.parted = 0
		}
		w.act(w.next(x, mix))
	}
	w.note()
	return w
}

// goApart has the first one asked while few hear it, and the others begin the next view.
func (w *drivenWalk) goApart(x *dice) {
	size := int64(len(w.cluster.Nodes))
	w.parted = 1
	if size > 4 {
		w.parted += x.upTo(2) << (2 + x.upTo(size-2))
	}
	for range 1 + x.upTo(3) {
		w.act(clusterAct{kind: actAsk, entry: entryOf(1+x.upTo(99), 1+x.upTo(998), anyOp(x))})
	}
	w.act(clusterAct{kind: actTimeout, at: 1 % size})
	for range 5 * size {
		at := slices.IndexFunc(w.cluster.Mails, func(m impl.Mail) bool { return !w.crosses(m) })
		if at < 0 {
			break
		}
		w.act(clusterAct{kind: actDeliver, at: int64(at)})
	}
	w.act(clusterAct{kind: actAsk, at: 1 % size, entry: entryOf(1+x.upTo(99), 1+x.upTo(998), anyOp(x))})
}

// next often has one asked, or beat, that is the first of its view.
func (w *drivenWalk) next(x *dice, mix walkMix) clusterAct {
	a := w.safeWalk.next(x, mix)
	if a.kind != actAsk && a.kind != actBeat || x.upTo(5) == 0 {
		return a
	}
	var firsts []int64
	for id, n := range w.cluster.Nodes {
		if n.Normal && isPrimary(n) {
			firsts = append(firsts, int64(id))
		}
	}
	if len(firsts) > 0 {
		a.at = firsts[x.upTo(int64(len(firsts)))]
	}
	return a
}

// act counts the mails for which there is no room: of those that the node sends some are not there then.
func (w *drivenWalk) act(a clusterAct) {
	if w.left == 0 {
		return
	}
	w.left--
	was := w.cluster
	got := a.does(was)
	if got.Code != impl.OK {
		w.seen["codes"] = true
		return
	}
	w.cluster = got.Cluster
	left := len(was.Mails)
	if a.kind == actDeliver || a.kind == actLose {
		left--
	}
	w.lost += int64(len(sentBy(a, was)) - (len(w.cluster.Mails) - left))
	w.seen["crashes"] = w.seen["crashes"] || a.kind == actCrash
	for _, n := range w.cluster.Nodes {
		if n.Normal && isPrimary(n) {
			w.begun[n.View] = true
		}
	}
}

// sentBy is all that the node of the act sends, whether there is room for it or not.
func sentBy(a clusterAct, c impl.Cluster) []impl.Mail {
	var sent []impl.Mail
	switch a.kind {
	case actDeliver, actKeep:
		_, sent, _ = afterHear(c.Nodes[c.Mails[a.at].To], c.Mails[a.at])
	case actAsk:
		_, sent = afterAsk(c.Nodes[a.at], a.entry)
	case actBeat:
		_, sent = afterBeat(c.Nodes[a.at])
	case actTimeout:
		_, sent = afterTimeout(c.Nodes[a.at])
	}
	return sent
}

// note tells what the walk has come to by its acts.
func (w *drivenWalk) note() {
	w.seen["several views"] = len(w.begun) > 1
	for _, n := range w.cluster.Nodes {
		w.seen["not normal"] = w.seen["not normal"] || !n.Normal
		for _, other := range w.cluster.Nodes {
			if !impl.IsBeginning(n.Log, other.Log) && !impl.IsBeginning(other.Log, n.Log) {
				w.seen["parted logs"] = true
			}
		}
	}
}

// wantNodesAlike asks that two nodes that know as many entries to be agreed come to the same, also in what they answered.
func wantNodesAlike(t *testing.T, c impl.Cluster, blocks int64) int {
	t.Helper()
	pairs := 0
	for i, n := range c.Nodes {
		one, told := impl.RunEntries(blocks, n.Log[:n.Commit]), impl.RepliesOf(blocks, n.Log[:n.Commit])
		for _, other := range c.Nodes[i+1:] {
			if n.Commit != other.Commit {
				continue
			}
			two := impl.RunEntries(blocks, other.Log[:n.Commit])
			if one.Code != impl.OK || two.Code != impl.OK || !impl.SameMachines(one.Machine, two.Machine) || one.Reply != two.Reply || one.Value != two.Value {
				t.Fatalf("%v and %v come to %v and %v", n, other, one, two)
			}
			wantInts(t, "what both answered", impl.RepliesOf(blocks, other.Log[:n.Commit]), impl.OK, told.List)
			pairs++
		}
	}
	return pairs
}

// round lets it go on by a round: nothing that was sealed becomes another.
func (w *drivenWalk) round(t *testing.T) {
	t.Helper()
	want, lost := afterRound(w.cluster)
	wantRound(t, "a round", w.cluster, want)
	if !impl.IsBeginning(w.cluster.Sealed, want.Sealed) || !impl.SealedRight(want) || !impl.LogsMatch(want) {
		t.Fatalf("%v became %v", w.cluster, want)
	}
	w.cluster = want
	w.lost += int64(lost)
}

// rounds lets it go on until it is even, and tells how many rounds that takes.
func (w *drivenWalk) rounds(t *testing.T) int64 {
	t.Helper()
	rounds := int64(0)
	for !impl.EvenCluster(w.cluster) {
		if rounds > 100 {
			t.Fatalf("it does not become even: %v", w.cluster)
		}
		w.round(t)
		rounds++
	}
	return rounds
}

// settle asks that all come to be even within the rounds that are told.
func (w *drivenWalk) settle(t *testing.T, blocks int64) (took, told int64) {
	t.Helper()
	was := w.cluster
	told = impl.RoundsFor(was).Value
	got := impl.SettleCluster(was)
	took = w.rounds(t)
	wantDrive(t, "settled", got, took, w.cluster)
	wantDrive(t, "so many rounds", impl.RunCluster(was, took), took, w.cluster)
	if took > told {
		t.Fatalf("%v took %d rounds of %d", was, took, told)
	}
	view := int64(0)
	for _, n := range was.Nodes {
		view = max(view, n.View)
	}
	if w.cluster.Nodes[0].View < view {
		t.Fatalf("%v came to %v", was, w.cluster)
	}
	wantSealed(t, "all is agreed", w.cluster, w.cluster.Nodes[0].Log)
	wantNodesAlike(t, w.cluster, blocks)
	return took, told
}

// freshEntry is one that nobody asked for, of a client that may still ask.
func (w *drivenWalk) freshEntry(x *dice) impl.Entry {
	for {
		e := entryOf(1+x.upTo(99), 999, anyOp(x))
		if !slices.ContainsFunc(w.cluster.Sealed, func(old impl.Entry) bool { return old.Client == e.Client && old.Seq == e.Seq }) {
			return e
		}
	}
}

// askAndRun asks the one who comes first, and lets it go on by some rounds. It tells whether there was room in the log.
func (w *drivenWalk) askAndRun(t *testing.T, e impl.Entry, rounds int64) bool {
	t.Helper()
	first := impl.LeaderOf(w.cluster)
	if first.Code != impl.OK {
		t.Fatalf("%v: nobody comes first", w.cluster)
	}
	asked := impl.AskAt(w.cluster, first.Value, e)
	if len(w.cluster.Sealed) == 40 {
		wantClusterCode(t, "the log is full", asked, impl.ErrMany)
		return false
	}
	if asked.Code != impl.OK {
		t.Fatalf("%v is asked for %v: the code %d", w.cluster, e, asked.Code)
	}
	want := append(slices.Clone(w.cluster.Sealed), e)
	got := impl.RunCluster(asked.Cluster, rounds)
	if got.Code != impl.OK || got.Rounds != rounds {
		t.Fatalf("%v: got %v", asked.Cluster, got)
	}
	w.cluster = got.Cluster
	wantSealed(t, "some rounds later", w.cluster, want)
	return true
}

// wantAnswered asks that the last one of Sealed stands there once, and is told what it comes to behind all others.
func (w *drivenWalk) wantAnswered(t *testing.T, blocks int64) {
	t.Helper()
	last := len(w.cluster.Sealed) - 1
	e, ahead := w.cluster.Sealed[last], w.cluster.Sealed[:last]
	if slices.Index(w.cluster.Sealed, e) != last {
		t.Fatalf("%v stands there twice: %v", e, w.cluster.Sealed)
	}
	done := impl.ApplyEntry(impl.RunEntries(blocks, ahead).Machine, e)
	want := append(impl.RepliesOf(blocks, ahead).List, done.Reply*256+done.Value)
	if !done.Fresh {
		t.Fatalf("%v was done already: %v", e, ahead)
	}
	wantInts(t, "it is answered", impl.AnswersOf(w.cluster, blocks), impl.OK, want)
}

// wantToldAgain asks for the last one once more: it is told the same, and nothing is done by that.
func (w *drivenWalk) wantToldAgain(t *testing.T, blocks int64) {
	t.Helper()
	e, was := w.cluster.Sealed[len(w.cluster.Sealed)-1], impl.AnswersOf(w.cluster, blocks).List
	before := impl.RunEntries(blocks, w.cluster.Sealed)
	if w.askAndRun(t, e, 3) {
		wantInts(t, "asked again", impl.AnswersOf(w.cluster, blocks), impl.OK, append(was, was[len(was)-1]))
		if then := impl.RunEntries(blocks, w.cluster.Sealed); !impl.SameMachines(before.Machine, then.Machine) {
			t.Fatalf("%v was done twice: %v became %v", e, before, then)
		}
	}
}

// crash has the nodes of an even cluster crash, and asks that each knows again, behind some rounds, what is agreed.
func (w *drivenWalk) crash(t *testing.T, nodes ...int64) {
	t.Helper()
	even := w.cluster
	for _, node := range nodes {
		w.cluster = impl.CrashAt(w.cluster, node).Cluster
		if len(even.Sealed) > 0 && w.cluster.Nodes[node].Commit != 0 {
			t.Fatalf("%v knows of something behind a crash", w.cluster.Nodes[node])
		}
	}
	wantSealed(t, "a crash", w.cluster, even.Sealed)
	if rounds := w.rounds(t); rounds > 4 {
		t.Fatalf("%v crashed at %v: even behind %d rounds", even, nodes, rounds)
	}
	wantSealed(t, "behind a crash", w.cluster, even.Sealed)
	for id, n := range w.cluster.Nodes {
		if n.Commit != int64(len(even.Sealed)) || !slices.Equal(n.Log, even.Sealed) || n.View != even.Nodes[id].View {
			t.Fatalf("%v crashed at %v, and became %v", even, nodes, w.cluster)
		}
	}
	w.cluster = even
}

// wantCrashes has each node of an even cluster crash, and several at once.
func (w *drivenWalk) wantCrashes(t *testing.T) {
	t.Helper()
	wantEven(t, "ahead of a crash", w.cluster, true)
	var all []int64
	for node := range int64(len(w.cluster.Nodes)) {
		w.crash(t, node)
		all = append(all, node)
	}
	w.crash(t, all...)
	w.crash(t, all[:(len(all)+1)/2]...)
}

// drivenSeen counts what the runs came to.
type drivenSeen struct {
	names       map[string]int
	runs, pairs int
	// most are the rounds that a run took at most, ofMost what was told of it; least is how many fewer than told it took at least.
	most, ofMost, least int64
}

func (s *drivenSeen) took(rounds, told int64) {
	if rounds > s.most {
		s.most, s.ofMost = rounds, told
	}
	s.least = min(s.least, told-rounds)
}

func (s *drivenSeen) run(t *testing.T, x *dice, size, acts int64, mix walkMix) {
	t.Helper()
	blocks := []int64{0, 2, 8, 16, 24}[x.upTo(5)]
	w := actsOf(x, size, acts, mix)
	s.pairs += wantNodesAlike(t, w.cluster, blocks)
	took, told := w.settle(t, blocks)
	s.took(took, told)
	w.wantCrashes(t)
	if w.askAndRun(t, w.freshEntry(x), 3) {
		w.wantAnswered(t, blocks)
		wantEven(t, "three rounds later", w.cluster, true)
		w.wantCrashes(t)
		w.wantToldAgain(t, blocks)
	}
	w.seen["mails lost for room"] = w.lost > 0
	w.seen["all four"] = w.seen["several views"] && w.seen["not normal"] && w.seen["crashes"] && w.seen["parted logs"]
	for name, is := range w.seen {
		if is {
			s.names[name]++
		}
	}
	s.runs++
}

// Of clusters that came of a new one by at most 46 acts: whatever was lost, late, doubled or crashed, all come to be even.
func TestAllComeToBeEven(t *testing.T) {
	x := &dice{state: 1521}
	all := &drivenSeen{names: map[string]int{}, least: 100}
	for size := int64(1); size <= 5; size++ {
		seen := &drivenSeen{names: map[string]int{}, least: 100}
		for _, mix := range fewActMixes(size) {
			for run := range int64(100) {
				acts := int64(mostActs)
				if run%3 == 0 {
					acts = x.upTo(mostActs + 1)
				}
				seen.run(t, x, size, acts, mix)
			}
		}
		t.Logf("%d nodes: of %d runs %v, at most %d rounds of %d, at least %d less than told, %d pairs alike", size, seen.runs, seen.names, seen.most, seen.ofMost, seen.least, seen.pairs)
		for name, many := range seen.names {
			all.names[name] += many
		}
		all.runs, all.pairs = all.runs+seen.runs, all.pairs+seen.pairs
		all.took(seen.most, seen.ofMost)
		all.least = min(all.least, seen.least)
	}
	t.Logf("of %d runs %v, at most %d rounds of %d, at least %d less than told, %d pairs alike", all.runs, all.names, all.most, all.ofMost, all.least, all.pairs)
	for name, least := range map[string]int{"several views": 800, "not normal": 800, "crashes": 800, "parted logs": 150, "all four": 50, "mails lost for room": 40} {
		if all.names[name] < least {
			t.Errorf("%s: %d of %d runs", name, all.names[name], all.runs)
		}
	}
	if all.pairs < 4000 {
		t.Errorf("%d pairs were alike", all.pairs)
	}
}

// All that the others were told of the entries is lost: they hear of one after another, each of which takes two rounds.
func TestAllThatTheOthersWereToldIsLost(t *testing.T) {
	for size := int64(2); size <= 5; size++ {
		for n := int64(1); n*size <= mostActs; n++ {
			w := &drivenWalk{safeWalk: newSafeWalk(size), left: mostActs}
			for i := range n {
				w.act(clusterAct{kind: actAsk, entry: writeEntry(i)})
				for range size - 1 {
					w.act(clusterAct{kind: actLose})
				}
			}
			took, told := w.settle(t, 8)
			if took != 2*n+2 || told != 20+2*n {
				t.Errorf("%d nodes, %d entries: %d rounds of %d", size, n, took, told)
			}
			wantSealed(t, "all that was asked", w.cluster, logUpTo(n))
			w.wantCrashes(t)
		}
	}
}

// As many are asked for as a log may have; of five nodes there is no room for all that is told of them. What is asked then has no room in the log.
func TestFortyAreAskedForAtOnce(t *testing.T) {
	for size := int64(1); size <= 5; size++ {
		w := &drivenWalk{safeWalk: newSafeWalk(size), left: mostActs}
		for i := range int64(40) {
			w.act(clusterAct{kind: actAsk, entry: writeEntry(i)})
		}
		for node := range size {
			w.act(clusterAct{kind: actCrash, at: node})
		}
		if size == 5 && w.lost != 40 {
			t.Errorf("%d mails were lost for room", w.lost)
		}
		if _, told := w.settle(t, 8); told != 100 {
			t.Errorf("%d rounds are told", told)
		}
		wantSealed(t, "all that was asked", w.cluster, logUpTo(40))
		if w.askAndRun(t, writeEntry(900), 3) {
			t.Errorf("%v was asked for more", w.cluster)
		}
		w.wantCrashes(t)
	}
}

// The elder first one was asked for what the others never heard: it comes to have what these were asked for.
func TestLogsThatPartedComeTogether(t *testing.T) {
	for size := int64(3); size <= 5; size++ {
		one := writeEntry(1)
		c := othersGoOn(t, size, one)
		for i := range int64(5) {
			c = impl.AskAt(c, 0, writeEntry(10+i)).Cluster
		}
		w := &drivenWalk{safeWalk: &safeWalk{cluster: c, begun: map[int64]bool{}, seen: map[string]bool{}}}
		if w.note(); !w.seen["parted logs"] {
			t.Fatalf("the logs are %v", c)
		}
		if _, told := w.settle(t, 8); told != 30 {
			t.Errorf("%d rounds are told", told)
		}
		wantSealed(t, "what the others were asked", w.cluster, []impl.Entry{one})
		w.wantCrashes(t)
	}
}

// All nodes of the view in which something was sealed last ask for another one, and an elder first one is still normal: nothing is lost by that.
func TestTheElderFirstOneThatIsLeftBehindComesToKnow(t *testing.T) {
	for size := int64(3); size <= 5; size++ {
		one := writeEntry(1)
		c := othersGoOn(t, size, one)
		for node := int64(1); node < size; node++ {
			c = impl.TimeoutAt(c, node).Cluster
		}
		wantPrimariesHave(t, "left behind", c, false)
		w := &drivenWalk{safeWalk: &safeWalk{cluster: c, begun: map[int64]bool{}, seen: map[string]bool{}}}
		w.settle(t, 8)
		wantSealed(t, "left behind", w.cluster, []impl.Entry{one})
		wantThreeParts(t, "all are even", w.cluster, threeParts{true, true, true})
		if !w.askAndRun(t, writeEntry(2), 3) {
			t.Fatalf("%v is full", w.cluster)
		}
		w.wantAnswered(t, 8)
	}
}

// As the examples tell: the first one is silent, another one asks for the next view, and whatever is sent then comes.
func TestTheNextViewIsSettled(t *testing.T) {
	for size := int64(2); size <= 5; size++ {
		c := impl.SettleCluster(impl.AskAt(impl.NewCluster(size).Cluster, 0, writeEntry(1)).Cluster).Cluster
		c.Mails = nil
		w := &drivenWalk{safeWalk: &safeWalk{cluster: impl.TimeoutAt(c, 1).Cluster, begun: map[int64]bool{}, seen: map[string]bool{}}}
		took, told := w.settle(t, 8)
		if told != 22 || took < 2 || took > 9 {
			t.Errorf("%d nodes: %d rounds of %d", size, took, told)
		}
		wantLeader(t, "the next view", w.cluster, impl.OK, 1)
		wantSealed(t, "the next view", w.cluster, []impl.Entry{writeEntry(1)})
	}
}
