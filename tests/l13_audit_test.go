package tests

import (
	"slices"
	"testing"

	"loop.example/g00277/impl"
)

// withLog has another log, of which so much is known to be agreed.
func withLog(n impl.Replica, log []impl.Entry, commit int64) impl.Replica {
	n = copyReplica(n)
	n.Log, n.Commit = slices.Clone(log), commit
	return n
}

// apartCluster has no fault: no node is normal, no two have one Last view, and their logs part at once.
func apartCluster(size int64) impl.Cluster {
	var c impl.Cluster
	for id := range size {
		log := []impl.Entry{writeEntry(500 + id), writeEntry(600 + id)}
		c.Nodes = append(c.Nodes, withLog(changingNode(id, size, 190, 180+id, 0), log, 0))
	}
	return c
}

// evenCluster has no fault: all nodes are normal in the view and know that all n entries are agreed.
func evenCluster(size, view, n int64) impl.Cluster {
	c := withSealed(normalCluster(size, view, n), logUpTo(n))
	for i := range c.Nodes {
		c.Nodes[i].Commit = n
	}
	return c
}

// entriesButOnePart are other than the first of them in just one part each, and have no fault.
func entriesButOnePart() []impl.Entry {
	return []impl.Entry{
		entryOf(3, 4, opOf(impl.OpWrite, 5, 6, 0)),
		entryOf(2, 4, opOf(impl.OpWrite, 5, 6, 0)),
		entryOf(3, 5, opOf(impl.OpWrite, 5, 6, 0)),
		entryOf(3, 4, opOf(impl.OpRead, 5, 6, 0)),
		entryOf(3, 4, opOf(impl.OpWrite, 6, 6, 0)),
		entryOf(3, 4, opOf(impl.OpWrite, 5, 7, 0)),
		entryOf(3, 4, opOf(impl.OpWrite, 5, 6, 1)),
	}
}

// threeParts are what SafeCluster asks for.
type threeParts struct {
	sealed, logs, primaries bool
}

func wantThreeParts(t *testing.T, name string, c impl.Cluster, want threeParts) {
	t.Helper()
	wantClusterFault(t, name, c, impl.OK)
	got := threeParts{impl.SealedRight(c), impl.LogsMatch(c), impl.PrimariesHave(c)}
	if got != want {
		t.Fatalf("%s: %v: got %+v, want %+v", name, c, got, want)
	}
	if safe := want.sealed && want.logs && want.primaries; impl.SafeCluster(c) != safe {
		t.Fatalf("%s: %v: SafeCluster is not %v", name, c, safe)
	}
}

func wantSealedRight(t *testing.T, name string, c impl.Cluster, want bool) {
	t.Helper()
	wantThreeParts(t, name, c, threeParts{want, true, true})
}

func wantLogsMatch(t *testing.T, name string, c impl.Cluster, want bool) {
	t.Helper()
	wantThreeParts(t, name, c, threeParts{true, want, true})
}

func wantPrimariesHave(t *testing.T, name string, c impl.Cluster, want bool) {
	t.Helper()
	wantThreeParts(t, name, c, threeParts{true, true, want})
}

func wantLeader(t *testing.T, name string, c impl.Cluster, code, value int64) {
	t.Helper()
	if got := impl.LeaderOf(c); got != (impl.IntResult{Code: code, Value: value}) {
		t.Fatalf("%s: %v: got %v, want the code %d, the value %d", name, c, got, code, value)
	}
}

func wantEven(t *testing.T, name string, c impl.Cluster, want bool) {
	t.Helper()
	wantClusterFault(t, name, c, impl.OK)
	if impl.EvenCluster(c) != want {
		t.Fatalf("%s: %v: EvenCluster is not %v", name, c, want)
	}
}

// wantAuditCode asks what all functions tell of a cluster with a fault.
func wantAuditCode(t *testing.T, name string, c impl.Cluster, code int64) {
	t.Helper()
	wantClusterFault(t, name, c, code)
	for asked, is := range map[string]func(c impl.Cluster) bool{
		"SealedRight": impl.SealedRight, "LogsMatch": impl.LogsMatch, "PrimariesHave": impl.PrimariesHave,
		"SafeCluster": impl.SafeCluster, "EvenCluster": impl.EvenCluster,
	} {
		if is(c) {
			t.Fatalf("%s: %v: %s is true", name, c, asked)
		}
	}
	wantLeader(t, name, c, code, 0)
	if got := impl.SealedOf(c); got.Code != code || len(got.Entries) != 0 {
		t.Fatalf("%s: %v: SealedOf tells %v, want the code %d alone", name, c, got, code)
	}
}

// Of a cluster of which nothing else is wrong, so that it is the fault that is told.
func TestAuditAsksTheFaultFirst(t *testing.T) {
	good := clusterWith(evenCluster(4, 60, 9))
	for kind := int64(1); kind <= 6; kind++ {
		good.Mails = append(good.Mails, mailOf(kind, 0, 2, 60))
	}
	wantThreeParts(t, "none", good, threeParts{true, true, true})
	wantEven(t, "none", good, true)
	wantLeader(t, "none", good, impl.OK, 0)
	breaks := slices.Concat(countBreaks(), clusterMailBreaks(), sealedBreaks())
	for at := range 4 {
		of := slices.Concat(numberBreaks(), listBreaks(true, at == 0))
		if at == 0 {
			of = append(of, okBreaks()...)
		}
		for _, b := range of {
			breaks = append(breaks, clusterBreak{name: b.name, code: b.code, do: func(c *impl.Cluster) { b.do(&c.Nodes[at]) }})
		}
	}
	codes := map[int64]int{}
	for _, b := range breaks {
		c := copyCluster(good)
		b.do(&c)
		wantAuditCode(t, b.name, c, b.code)
		codes[b.code]++
	}
	if codes[impl.ErrMany] < 10 || codes[impl.ErrRange] < 10 || codes[impl.ErrForm] < 10 || len(codes) != 3 {
		t.Errorf("codes %v", codes)
	}
	wantAuditCode(t, "nothing", impl.Cluster{}, impl.ErrMany)
	wantAuditCode(t, "no nodes, and something sealed", impl.Cluster{Sealed: logUpTo(3)}, impl.ErrMany)
}

// Each fault that a cluster can have, of nodes of each state.
func TestAuditOfEachFault(t *testing.T) {
	for _, b := range clusterBreaks() {
		wantAuditCode(t, b.name, brokenBy(b), b.code)
	}
	wrong := normalCluster(3, 0, 2)
	wrong.Nodes[0], wrong.Nodes[2] = wrong.Nodes[2], wrong.Nodes[0]
	wantAuditCode(t, "nodes that changed places", wrong, impl.ErrForm)
	wantAuditCode(t, "a node too many", impl.Cluster{Nodes: slices.Repeat(normalCluster(5, 0, 0).Nodes, 2)}, impl.ErrMany)
	wantAuditCode(t, "a node too few", impl.Cluster{Nodes: normalCluster(5, 0, 0).Nodes[:4]}, impl.ErrForm)
}

// asNormalOrNot has the cluster, and the same with the node being in the next view, in which it is not normal.
func asNormalOrNot(c impl.Cluster, node int64) []impl.Cluster {
	n := c.Nodes[node]
	changes := changingNode(node, n.Size, n.View+1, n.View, 0)
	return []impl.Cluster{c, withNode(c, withLog(changes, n.Log, n.Commit))}
}

func TestCommitAndHowManyAreSealed(t *testing.T) {
	for size := int64(1); size <= 5; size++ {
		for node := range size {
			for _, sealed := range []int64{0, 1, 2, 5, 39} {
				c := withSealed(normalCluster(size, 3, 40), logUpTo(sealed))
				for _, c := range asNormalOrNot(c, node) {
					wantSealedRight(t, "Commit 0", c, true)
					wantSealedRight(t, "just as many", withNode(c, withCommit(c.Nodes[node], sealed)), true)
					wantSealedRight(t, "one less", withNode(c, withCommit(c.Nodes[node], max(0, sealed-1))), true)
					wantSealedRight(t, "one more", withNode(c, withCommit(c.Nodes[node], sealed+1)), false)
					wantSealedRight(t, "all", withNode(c, withCommit(c.Nodes[node], 40)), false)
				}
			}
			c := evenCluster(size, 3, 40)
			wantSealedRight(t, "40 of 40", c, true)
			wantSealedRight(t, "39 of 40", withNode(c, withCommit(c.Nodes[node], 39)), true)
		}
	}
}

func TestEntriesBelowAndBehindCommit(t *testing.T) {
	for size := int64(1); size <= 5; size++ {
		for node := range size {
			for _, sealed := range []int64{5, 6, 9} {
				c := withSealed(apartCluster(size), logUpTo(sealed))
				for at := range int64(9) {
					n := withLog(c.Nodes[node], logBut(9, at, writeEntry(700)), 5)
					wantSealedRight(t, "one entry is another", withNode(c, n), at >= 5)
					n = withLog(c.Nodes[node], logBut(9, at, c.Sealed[(at+1)%5]), 5)
					wantSealedRight(t, "one that is sealed elsewhere", withNode(c, n), at >= 5)
				}
				swapped := logUpTo(9)
				swapped[3], swapped[4] = swapped[4], swapped[3]
				wantSealedRight(t, "another order", withNode(c, withLog(c.Nodes[node], swapped, 5)), false)
				wantSealedRight(t, "that order behind Commit", withNode(c, withLog(c.Nodes[node], swapped, 3)), true)
				wantSealedRight(t, "the log ends at Commit", withNode(c, withLog(c.Nodes[node], logUpTo(5), 5)), true)
				wantSealedRight(t, "all but the first", withNode(c, withLog(c.Nodes[node], logUpTo(9)[1:], 5)), false)
			}
		}
	}
}

func TestEntriesBelowCommitInEachPart(t *testing.T) {
	list := entriesButOnePart()
	for _, size := range []int64{1, 2, 5} {
		for node := range size {
			for at := range int64(4) {
				sealed := logBut(4, at, list[0])
				c := withSealed(apartCluster(size), sealed)
				for i, x := range list {
					n := withLog(c.Nodes[node], logBut(4, at, x), 4)
					wantSealedRight(t, "an entry", withNode(c, n), i == 0)
					wantSealedRight(t, "an entry that is not agreed", withNode(c, withCommit(n, at)), true)
				}
			}
		}
	}
}

// What is sealed need not be known to any node, nor be in any log of one that is not the first.
func TestSealedOfNodesThatHaveNothing(t *testing.T) {
	for size := int64(1); size <= 5; size++ {
		for _, n := range []int64{0, 1, 5, 40} {
			c := withSealed(impl.NewCluster(size).Cluster, logUpTo(n))
			wantPrimariesHave(t, "new nodes", c, n == 0)
			none := withSealed(apartCluster(size), logUpTo(n))
			for i := range none.Nodes {
				none.Nodes[i].Log = nil
			}
			wantSealedRight(t, "no node is normal", none, true)
		}
	}
}

// logPair are two logs, and whether the one is a beginning of the other.
type logPair struct {
	name string
	a, b []impl.Entry
	is   bool
}

func logPairs() []logPair {
	other := writeEntry(700)
	list := []logPair{
		{"both empty", nil, nil, true}, {"one empty", nil, logUpTo(1), true}, {"one empty, the other full", nil, logUpTo(40), true},
		{"alike", logUpTo(9), logUpTo(9), true}, {"alike and full", logUpTo(40), logUpTo(40), true},
		{"a beginning", logUpTo(5), logUpTo(9), true}, {"all but the last", logUpTo(8), logUpTo(9), true},
		{"one entry each", logUpTo(1), []impl.Entry{other}, false}, {"an end", logUpTo(9)[4:], logUpTo(9), false},
		{"the last of 40", logUpTo(40), logBut(40, 39, other), false},
		{"the last of 40, of 39", logBut(39, 38, other), logUpTo(40), false},
	}
	for at := range int64(9) {
		list = append(list, logPair{"one entry", logUpTo(9), logBut(9, at, other), false})
		list = append(list, logPair{"one entry, of a shorter one", logBut(at+1, at, other), logUpTo(9), false})
		list = append(list, logPair{"one entry behind the shorter one", logUpTo(at), logBut(9, at, other), true})
	}
	parts := entriesButOnePart()
	for _, x := range parts[1:] {
		list = append(list, logPair{"an entry in one part", logBut(5, 2, parts[0]), logBut(5, 2, x), false})
	}
	return list
}

// withPair has the two nodes, each with its log, whatever state it is in.
func withPair(c impl.Cluster, one, other impl.Replica, p logPair) impl.Cluster {
	return withNode(withNode(c, withLog(one, p.a, 0)), withLog(other, p.b, 0))
}

// lastStates are a node that is normal in the view and some that were so last, in that view or in one that they ask for by now.
func lastStates(id, size, last int64) []impl.Replica {
	return []impl.Replica{normalNode(id, size, last, 0), changingNode(id, size, last, last, 0), changingNode(id, size, last+1, last, 0), changingNode(id, size, 170+id, last, 0)}
}

func TestLogsOfOneLastView(t *testing.T) {
	for size := int64(2); size <= 5; size++ {
		for i := range size {
			for j := range i {
				for _, last := range []int64{0, 1, 7} {
					for _, one := range lastStates(i, size, last) {
						for _, other := range lastStates(j, size, last) {
							for _, p := range logPairs() {
								c := apartCluster(size)
								wantLogsMatch(t, p.name, withPair(c, one, other, p), p.is)
								wantLogsMatch(t, p.name+", the other way round", withPair(c, other, one, p), p.is)
							}
						}
					}
				}
			}
		}
	}
}

// Logs of other Last views may part, even where the nodes are in one view by now.
func TestLogsOfOtherLastViews(t *testing.T) {
	parted := logPair{"parted", logUpTo(5), logBut(5, 0, writeEntry(700)), false}
	for size := int64(2); size <= 5; size++ {
		for i := range size {
			for j := range size {
				if i == j {
					continue
				}
				c := apartCluster(size)
				for last := range int64(9) {
					one := changingNode(i, size, 9, last, 0)
					wantLogsMatch(t, "one View", withPair(c, one, changingNode(j, size, 9, 9, 0), parted), true)
					wantLogsMatch(t, "one is normal in it", withPair(c, one, normalNode(j, size, 9, 0), parted), true)
					wantLogsMatch(t, "both are normal", withPair(c, normalNode(i, size, last, 0), normalNode(j, size, last+1, 0), parted), true)
				}
			}
		}
		wantLogsMatch(t, "all in one View, each of a Last of its own", apartCluster(size), true)
		one := apartCluster(size)
		for i := range one.Nodes {
			one.Nodes[i].Last = 5
		}
		wantLogsMatch(t, "all of one Last", one, false)
	}
	wantLogsMatch(t, "there is one node", apartCluster(1), true)
}

// Two pairs of one Last view each: the one that parts is told wherever it stands.
func TestLogsOfTwoPairs(t *testing.T) {
	for _, wrong := range [][]int{{0, 1}, {0, 2}, {0, 3}, {1, 2}, {1, 3}, {2, 3}} {
		c := apartCluster(4)
		for i := range c.Nodes {
			c.Nodes[i].Last, c.Nodes[i].Log = 4, logUpTo(int64(i))
		}
		for _, i := range wrong {
			c.Nodes[i].Last, c.Nodes[i].Log = 5, logUpTo(3)
		}
		wantLogsMatch(t, "both match", c, true)
		c.Nodes[wrong[1]].Log = logBut(3, 2, writeEntry(700))
		wantLogsMatch(t, "one pair parts", c, false)
	}
	for at := range 5 {
		c := normalCluster(5, 6, 4)
		c.Nodes[at].Log[3] = writeEntry(700)
		wantLogsMatch(t, "one of five has another entry", c, false)
		c.Nodes[at].Log = c.Nodes[at].Log[:3]
		wantLogsMatch(t, "one of five lacks it", c, true)
	}
}

// viewsOf are views of which the node is the primary: the first two, and the last one.
func viewsOf(id, size int64) []int64 {
	return []int64{id, id + size, 200 - (200-id)%size}
}

// Of the primary that has the greatest View, the others not being normal.
func TestWhatIsSealedAndTheFirstOne(t *testing.T) {
	for size := int64(1); size <= 5; size++ {
		for id := range size {
			for _, view := range viewsOf(id, size) {
				c := apartCluster(size)
				first := normalNode(id, size, view, 0)
				for n := range int64(7) {
					for sealed := range int64(7) {
						with := withNode(withSealed(c, logUpTo(sealed)), withLog(first, logUpTo(n), 0))
						wantPrimariesHave(t, "the first ones of a log", with, sealed <= n)
					}
				}
				c = withSealed(c, logUpTo(5))
				for at := range int64(9) {
					log := logBut(9, at, writeEntry(700))
					wantPrimariesHave(t, "one entry is another", withNode(c, withLog(first, log, 0)), at >= 5)
				}
				c = withSealed(c, logUpTo(40))
				wantPrimariesHave(t, "40", withNode(c, withLog(first, logUpTo(40), 40)), true)
				wantPrimariesHave(t, "39 of 40", withNode(c, withLog(first, logUpTo(39), 39)), false)
				wantPrimariesHave(t, "the last of 40", withNode(c, withLog(first, logBut(40, 39, writeEntry(700)), 39)), false)
			}
		}
	}
}

func TestWhatIsSealedInEachPart(t *testing.T) {
	list := entriesButOnePart()
	for at := range int64(4) {
		for i, x := range list {
			c := withSealed(apartCluster(3), logBut(4, at, list[0]))
			wantPrimariesHave(t, "an entry", withNode(c, withLog(normalNode(1, 3, 4, 0), logBut(4, at, x), 0)), i == 0)
		}
	}
}

// The greatest View is that of all nodes that are normal, the primary of it being among them or not.
func TestTheGreatestViewOfAllThatAreNormal(t *testing.T) {
	lacks := withSealed(withNode(apartCluster(3), normalNode(0, 3, 6, 0)), logUpTo(2))
	wantPrimariesHave(t, "none but the first one is normal", lacks, false)
	for _, view := range []int64{0, 3, 4, 5, 6} {
		if view%3 != 2 {
			wantPrimariesHave(t, "one follows in the same view, or in an elder one", withNode(lacks, normalNode(2, 3, view, 0)), false)
		}
	}
	for _, view := range []int64{7, 9, 10, 199} {
		wantPrimariesHave(t, "one follows in a view above", withNode(lacks, normalNode(2, 3, view, 0)), true)
		wantPrimariesHave(t, "one is in a view above, but not normal", withNode(lacks, changingNode(2, 3, view, 4, 0)), false)
		wantPrimariesHave(t, "and its Last is that view", withNode(lacks, changingNode(2, 3, view, view, 0)), false)
	}
	wantPrimariesHave(t, "the primary of a view above is not normal", withNode(lacks, changingNode(1, 3, 7, 7, 0)), false)
	for _, last := range []int64{0, 5, 6} {
		left := withNode(lacks, changingNode(0, 3, 6, last, 0))
		wantPrimariesHave(t, "the primary is not normal", left, true)
		wantPrimariesHave(t, "another one is, in a view below", withNode(left, normalNode(2, 3, 4, 0)), true)
		wantPrimariesHave(t, "another one is, in its view", withNode(left, normalNode(2, 3, 6, 0)), true)
		wantPrimariesHave(t, "another one is, and is the first of an elder view", withNode(left, normalNode(2, 3, 5, 0)), false)
	}
}

// Of each two primaries, at each two places, the one of the greater View is asked.
func TestPrimariesOfElderViews(t *testing.T) {
	for size := int64(2); size <= 5; size++ {
		for elder := range size {
			for first := range size {
				if elder == first {
					continue
				}
				view := first + 3*size
				for _, below := range []int64{elder, elder + size, elder + 2*size} {
					c := withSealed(apartCluster(size), logUpTo(5))
					c = withNode(withNode(c, normalNode(elder, size, below, 0)), normalNode(first, size, view, 5))
					wantPrimariesHave(t, "the elder one lacks all", c, true)
					c.Nodes[elder].Log = logBut(9, 2, writeEntry(700))
					wantPrimariesHave(t, "the elder one has another entry", c, true)
					c.Nodes[elder].Log, c.Nodes[first].Log = logUpTo(5), logUpTo(4)
					wantPrimariesHave(t, "the first one lacks one", c, false)
					c.Nodes[first].Log = nil
					wantPrimariesHave(t, "the first one lacks all", c, false)
				}
			}
		}
	}
}

// Each part by itself, each two of them, and all three.
func TestJustOnePartIsNotSo(t *testing.T) {
	for mask := range 8 {
		c := withSealed(evenCluster(4, 4, 3), logUpTo(2))
		for i := range c.Nodes {
			c.Nodes[i].Commit = 2
		}
		want := threeParts{true, true, true}
		if mask&1 != 0 {
			n := changingNode(3, 4, 7, 2, 0)
			c, want.sealed = withNode(c, withLog(n, logBut(2, 1, writeEntry(700)), 2)), false
		}
		if mask&2 != 0 {
			c, want.logs = withNode(c, withLog(c.Nodes[2], logBut(3, 2, writeEntry(701)), 2)), false
		}
		if mask&4 != 0 {
			log := logUpTo(3)
			c.Sealed, want.primaries = append(log, writeEntry(702)), false
		}
		wantThreeParts(t, "parts", c, want)
	}
}

func TestNewClustersAreSafe(t *testing.T) {
	for size := int64(1); size <= 5; size++ {
		c := impl.NewCluster(size).Cluster
		wantThreeParts(t, "new", c, threeParts{true, true, true})
		wantEven(t, "new", c, true)
		wantLeader(t, "new", c, impl.OK, 0)
		wantSealed(t, "new", c, nil)
	}
}

// leaderStates are the first one of three views, one that follows, one that is not normal, and one that is that in a view of its own.
func leaderStates(id, size int64) []impl.Replica {
	var list []impl.Replica
	for _, view := range []int64{id, id + size, id + 2*size} {
		list = append(list, normalNode(id, size, view, 1))
	}
	list = append(list, changingNode(id, size, id+3*size, id, 1), changingNode(id, size, 199, 190, 1))
	if size > 1 {
		list = append(list, normalNode(id, size, id+1, 1), normalNode(id, size, id+3*size+1, 1))
	}
	return list
}

// All states of each node beside all of the others. Where a node leads is told by how the states are listed.
func TestLeaderOfAllStates(t *testing.T) {
	found := map[int]int{}
	for size := int64(1); size <= 5; size++ {
		many := len(leaderStates(0, size))
		all := 1
		for range size {
			all *= many
		}
		for number := range all {
			var c impl.Cluster
			leader, view, leaders, rest := int64(-1), int64(-1), 0, number
			for id := range size {
				state := rest % many
				rest /= many
				n := leaderStates(id, size)[state]
				c.Nodes = append(c.Nodes, n)
				if state < 3 {
					leaders++
				}
				if state < 3 && n.View > view {
					leader, view = id, n.View
				}
			}
			found[leaders]++
			if leaders == 0 {
				wantLeader(t, "none", c, impl.ErrNone, 0)
			} else {
				wantLeader(t, "some", c, impl.OK, leader)
			}
		}
	}
	for leaders := range 6 {
		if found[leaders] < 200 {
			t.Errorf("how often as many lead: %v", found)
		}
	}
}

func TestLeaderByHand(t *testing.T) {
	for i, views := range [][]int64{{9, 4, 5}, {6, 10, 5}, {6, 4, 11}, {3, 4, 5}, {3, 4, 2}, {3, 1, 2}} {
		c := impl.Cluster{}
		for id := range int64(3) {
			c.Nodes = append(c.Nodes, normalNode(id, 3, views[id], 1))
		}
		wantLeader(t, "three at once", c, impl.OK, []int64{0, 1, 2, 2, 1, 0}[i])
	}
	c := normalCluster(3, 7, 2)
	wantLeader(t, "one", c, impl.OK, 1)
	wantLeader(t, "it is not normal", withNode(c, changingNode(1, 3, 7, 7, 2)), impl.ErrNone, 0)
	wantLeader(t, "one of an elder view beside it", withNode(c, normalNode(0, 3, 6, 2)), impl.OK, 1)
	wantLeader(t, "one that follows in a greater view", withNode(c, normalNode(0, 3, 8, 2)), impl.OK, 1)
	wantLeader(t, "the last view", normalCluster(3, 200, 0), impl.OK, 2)
	wantLeader(t, "none is normal", apartCluster(5), impl.ErrNone, 0)
	wantLeader(t, "alone", normalCluster(1, 199, 40), impl.OK, 0)
}

func TestEvenClusters(t *testing.T) {
	for size := int64(1); size <= 5; size++ {
		for _, view := range []int64{0, 1, 6, 200} {
			for _, n := range []int64{0, 1, 5, 40} {
				c := evenCluster(size, view, n)
				wantEven(t, "even", c, true)
				wantEven(t, "nothing is sealed", withSealed(c, nil), true)
				wantEven(t, "other entries are sealed", withSealed(c, otherLog(3)), true)
				if size > 1 {
					wantEven(t, "mails are on their way", clusterWith(c, manyMails(120)...), true)
				}
				for i := range c.Nodes[view%size].Oks {
					c.Nodes[view%size].Oks[i] = n
				}
				wantEven(t, "whatever the first one knows of the others", c, true)
			}
		}
	}
	wantEven(t, "no node is normal, all are alike", impl.Cluster{Nodes: []impl.Replica{changingNode(0, 2, 4, 4, 0), changingNode(1, 2, 4, 4, 0)}}, false)
	wantEven(t, "no node is normal", apartCluster(3), false)
}

// evenBut has another node in place of one of an even cluster.
func evenBut(node int64, c impl.Cluster, change func(n *impl.Replica)) impl.Cluster {
	c = copyCluster(c)
	change(&c.Nodes[node])
	return c
}

func TestOneNodeIsNotEven(t *testing.T) {
	for size := int64(1); size <= 5; size++ {
		for node := range size {
			for _, n := range []int64{1, 5, 40} {
				c := evenCluster(size, 6, n)
				alone := size == 1
				for _, view := range []int64{6, 7} {
					left := withLog(changingNode(node, size, view, 6, 0), logUpTo(n), n)
					wantEven(t, "it is not normal", withNode(c, left), false)
				}
				for _, view := range []int64{0, 5, 7, 6 + size, 200} {
					wantEven(t, "another view", withNode(c, withLog(normalNode(node, size, view, 0), logUpTo(n), n)), alone)
				}
				for _, at := range []int64{0, n / 2, n - 1} {
					wantEven(t, "another entry", evenBut(node, c, func(r *impl.Replica) { r.Log[at] = writeEntry(700) }), alone)
				}
				wantEven(t, "one entry less", withNode(c, withLog(c.Nodes[node], logUpTo(n-1), n-1)), alone)
				wantEven(t, "no entries", withNode(c, withLog(c.Nodes[node], nil, 0)), alone)
				if n < 40 {
					wantEven(t, "one entry more", withNode(c, withLog(c.Nodes[node], logUpTo(n+1), n+1)), alone)
					wantEven(t, "one entry more, and not agreed", withNode(c, withLog(c.Nodes[node], logUpTo(n+1), n)), false)
				}
				wantEven(t, "Commit is one less", withNode(c, withCommit(c.Nodes[node], n-1)), false)
				wantEven(t, "Commit is 0", withNode(c, withCommit(c.Nodes[node], 0)), false)
			}
			c := evenCluster(size, 6, 0)
			wantEven(t, "not normal, and no entries", withNode(c, changingNode(node, size, 6, 6, 0)), false)
			wantEven(t, "another view, and no entries", withNode(c, normalNode(node, size, 5, 0)), size == 1)
			wantEven(t, "one entry, and the others none", withNode(c, withLog(c.Nodes[node], logUpTo(1), 1)), size == 1)
		}
	}
	parts := entriesButOnePart()
	for _, x := range parts[1:] {
		c := evenCluster(2, 6, 1)
		c.Nodes[0].Log[0], c.Nodes[1].Log[0] = parts[0], x
		wantEven(t, "an entry in one part", c, false)
	}
}

func wantSealed(t *testing.T, name string, c impl.Cluster, want []impl.Entry) {
	t.Helper()
	if got := impl.SealedOf(c); got.Code != impl.OK || !slices.Equal(got.Entries, want) {
		t.Fatalf("%s: %v: got %v, want %v", name, c, got, want)
	}
}

// Whatever else is so: what is sealed is told.
func TestSealedOf(t *testing.T) {
	for size := int64(1); size <= 5; size++ {
		for _, c := range []impl.Cluster{impl.NewCluster(size).Cluster, apartCluster(size), evenCluster(size, 9, 4)} {
			for _, n := range []int64{0, 1, 2, 5, 39, 40} {
				wantSealed(t, "entries", withSealed(c, logUpTo(n)), logUpTo(n))
				wantSealed(t, "other entries", withSealed(c, otherLog(n)), otherLog(n))
			}
			c.Sealed = nil
			wantSealed(t, "nil", c, nil)
			c.Sealed = []impl.Entry{}
			wantSealed(t, "empty", c, nil)
			c.Sealed = slices.Repeat(logUpTo(1), 7)
			wantSealed(t, "entries that are alike", c, slices.Repeat(logUpTo(1), 7))
		}
	}
}
