package tests

import (
	"slices"
	"testing"

	"loop.example/g00277/impl"
)

// audited is all that the functions of the chapter tell of one cluster.
type audited struct {
	threeParts
	safe, even bool
	leader     impl.IntResult
	code       int64
	sealedList []impl.Entry
}

func auditOf(c impl.Cluster) audited {
	sealed := impl.SealedOf(c)
	return audited{
		threeParts: threeParts{impl.SealedRight(c), impl.LogsMatch(c), impl.PrimariesHave(c)},
		safe:       impl.SafeCluster(c), even: impl.EvenCluster(c),
		leader: impl.LeaderOf(c), code: sealed.Code, sealedList: sealed.Entries,
	}
}

func (a audited) same(b audited) bool {
	return a.threeParts == b.threeParts && a.safe == b.safe && a.even == b.even && a.leader == b.leader && a.code == b.code && slices.Equal(a.sealedList, b.sealedList)
}

// partsIn tells the three parts as the chapter does, of a cluster without a fault.
func partsIn(c impl.Cluster) threeParts {
	parts := threeParts{true, true, true}
	for _, n := range c.Nodes {
		if n.Commit > int64(len(c.Sealed)) || !slices.Equal(n.Log[:n.Commit], c.Sealed[:n.Commit]) {
			parts.sealed = false
		}
		for _, other := range c.Nodes {
			both := min(len(n.Log), len(other.Log))
			if n.Last == other.Last && !slices.Equal(n.Log[:both], other.Log[:both]) {
				parts.logs = false
			}
		}
	}
	if view := greatestNormal(c); view >= 0 {
		first := c.Nodes[view%int64(len(c.Nodes))]
		if first.Normal && first.View == view {
			parts.primaries = len(first.Log) >= len(c.Sealed) && slices.Equal(first.Log[:len(c.Sealed)], c.Sealed)
		}
	}
	return parts
}

// greatestNormal is -1 where no node is normal.
func greatestNormal(c impl.Cluster) int64 {
	view := int64(-1)
	for _, n := range c.Nodes {
		if n.Normal && n.View > view {
			view = n.View
		}
	}
	return view
}

// leaderIn goes down from the last view on, and asks the one who could be the first of it.
func leaderIn(c impl.Cluster) impl.IntResult {
	for view := int64(200); view >= 0; view-- {
		if n := c.Nodes[view%int64(len(c.Nodes))]; n.Normal && n.View == view {
			return impl.IntResult{Value: n.Id}
		}
	}
	return impl.IntResult{Code: impl.ErrNone}
}

// auditIn is what should be told of a cluster that may have a fault.
func auditIn(c impl.Cluster) audited {
	if code := faultIn(c); code != impl.OK {
		return audited{leader: impl.IntResult{Code: code}, code: code}
	}
	want := audited{threeParts: partsIn(c), even: true, leader: leaderIn(c), sealedList: c.Sealed}
	want.safe = want.sealed && want.logs && want.primaries
	for _, n := range c.Nodes {
		for _, other := range c.Nodes {
			same := n.View == other.View && slices.Equal(n.Log, other.Log)
			want.even = want.even && same && n.Normal && int(n.Commit) == len(n.Log)
		}
	}
	return want
}

func wantAudit(t *testing.T, name string, c impl.Cluster) audited {
	t.Helper()
	got, want := auditOf(c), auditIn(c)
	if !got.same(want) {
		t.Fatalf("%s: %v: got %+v, want %+v", name, c, got, want)
	}
	return got
}

// likelyLog is often a beginning of the same log as the others.
func likelyLog(x *dice, n, unlike int64) []impl.Entry {
	log := logUpTo(n)
	if n > 0 && x.upTo(unlike) == 0 {
		log[x.upTo(n)] = writeEntry(700 + x.upTo(2))
	}
	return log
}

// likelyCluster has no fault, and is often such that just a few things are not as they should be.
func likelyCluster(x *dice, size int64) impl.Cluster {
	view, n := x.upTo(190), []int64{0, 1, 3, 9, 40}[x.upTo(5)]
	unlike := 2 + x.upTo(30)
	some := func(likely, most int64) int64 {
		if x.upTo(unlike) > 0 {
			return likely
		}
		return x.upTo(most + 1)
	}
	c := impl.Cluster{Sealed: likelyLog(x, some(n, min(40, n+1)), unlike)}
	for id := range size {
		of := view
		if x.upTo(unlike) == 0 {
			of = max(0, view-1+x.upTo(4))
		}
		r := normalNode(id, size, of, 0)
		if x.upTo(unlike) == 0 {
			r = changingNode(id, size, of+x.upTo(3), of, 0)
		}
		log := likelyLog(x, some(n, n), unlike)
		c.Nodes = append(c.Nodes, withLog(r, log, some(int64(len(log)), int64(len(log)))))
	}
	if size > 1 {
		c.Mails = manyMails(x.upTo(4))
	}
	return c
}

// eachAudited has clusters with faults and without, each with lists of its own, and roomy ones.
func eachAudited(yield func(c impl.Cluster) bool) {
	x := &dice{state: 13}
	list := slices.Concat(handMadeClusters(), []impl.Cluster{{}, apartCluster(5), evenCluster(5, 6, 40), impl.NewCluster(3).Cluster})
	for round := range int64(400) {
		list = append(list, likelyCluster(x, 1+round%5))
	}
	for round := range int64(60) {
		list = append(list, madeCluster(x, 1+round%5))
	}
	for _, b := range someBreaks() {
		list = append(list, brokenBy(b))
	}
	for _, c := range list {
		if !yield(roomyCluster(c)) {
			return
		}
	}
}

// All is told as the chapter does, and each answer comes about often.
func TestAuditOfManyClusters(t *testing.T) {
	x := &dice{state: 1313}
	seen := map[string]int{}
	count := func(name string, is bool) {
		if is {
			seen[name]++
		} else {
			seen["not "+name]++
		}
	}
	for round := range int64(30000) {
		got := wantAudit(t, "likely", likelyCluster(x, 1+round%5))
		count("sealed", got.sealed)
		count("logs", got.logs)
		count("primaries", got.primaries)
		count("safe", got.safe)
		count("even", got.even)
		count("leader", got.leader.Code == impl.OK)
	}
	for round := range int64(500) {
		wantAudit(t, "made", madeCluster(x, 1+round%5))
	}
	for name, many := range seen {
		if many < 1000 || len(seen) != 12 {
			t.Errorf("%s: %v", name, seen)
		}
	}
}

func TestAuditChangesNoArgument(t *testing.T) {
	codes := map[int64]int{}
	for c := range eachAudited {
		kept := keep(c)
		got := auditOf(c)
		kept.wantUnchanged(t, "all functions")
		if again := auditOf(c); !again.same(got) {
			t.Fatalf("%v: another answer at the same argument: %+v and %+v", c, got, again)
		}
		codes[got.code]++
	}
	if codes[impl.OK] < 400 || codes[impl.ErrMany] < 10 || codes[impl.ErrRange] < 10 || codes[impl.ErrForm] < 10 {
		t.Errorf("codes %v", codes)
	}
}

func TestSealedOfSharesNoMemory(t *testing.T) {
	lists := 0
	for c := range eachAudited {
		kept := keep(c)
		got, again := impl.SealedOf(c), impl.SealedOf(c)
		want := slices.Clone(got.Entries)
		lists += wantApart(t, "an answer, another one and the argument", c, got, again)
		markEntries(got.Entries, -77)
		kept.wantUnchanged(t, "the answer was written into")
		scribbleCluster(c)
		if !slices.Equal(again.Entries, want) {
			t.Fatalf("what is written elsewhere is in the answer: %v, want %v", again.Entries, want)
		}
	}
	if lists < 5000 {
		t.Errorf("%d lists", lists)
	}
}

// Lists that are pieces of one are no fault, and are as good as lists of their own.
func TestAuditOfListsThatShareMemory(t *testing.T) {
	c := sharingCluster()
	kept := keep(c)
	wantAudit(t, "it shares", c)
	wantApart(t, "an answer", impl.SealedOf(c))
	kept.wantUnchanged(t, "lists that share memory")
	log := roomy(logUpTo(9))
	c = evenCluster(3, 6, 5)
	for i := range c.Nodes {
		c.Nodes[i].Log = log[:5]
	}
	c.Sealed = log[:5]
	wantThreeParts(t, "all logs are one", c, threeParts{true, true, true})
	wantEven(t, "all logs are one", c, true)
	c.Nodes[1].Log = log[:6]
	wantThreeParts(t, "one is longer", c, threeParts{true, true, true})
	wantEven(t, "one is longer", c, false)
}

// What stands behind the end of a list is not in it.
func TestAuditReadsNoFurtherThanTheEnd(t *testing.T) {
	for _, n := range []int64{0, 1, 5} {
		c := evenCluster(3, 6, n)
		for i := range c.Nodes {
			c.Nodes[i].Log = logBut(9, 8, writeEntry(700+int64(i)))[:n]
		}
		c.Sealed = otherLog(9)[:0]
		wantThreeParts(t, "all in Sealed is behind its end", c, threeParts{n == 0, true, true})
		wantEven(t, "the logs are alike up to their ends", c, true)
		wantSealed(t, "none", c, nil)
	}
}

// Nil and an empty list are the same.
func TestAuditOfEmptyLists(t *testing.T) {
	for size := int64(1); size <= 5; size++ {
		for _, c := range []impl.Cluster{impl.NewCluster(size).Cluster, apartCluster(size), evenCluster(size, 3, 0), evenCluster(size, 3, 2)} {
			full := copyCluster(c)
			full.Mails, full.Sealed = []impl.Mail{}, append([]impl.Entry{}, c.Sealed...)
			for i, n := range full.Nodes {
				n.Log, n.Oks, n.Asks, n.Doers = append([]impl.Entry{}, n.Log...), append([]int64{}, n.Oks...), append([]bool{}, n.Asks...), append([]impl.Doer{}, n.Doers...)
				full.Nodes[i] = n
			}
			if one, other := auditOf(c), auditOf(full); !one.same(other) {
				t.Errorf("%v: got %+v, and with empty lists %+v", c, one, other)
			}
		}
	}
}

// Numbers of any size and sign, in lists of any length, at any place.
func TestAuditOfAnyCluster(t *testing.T) {
	x := &dice{state: 1314}
	codes := map[int64]int{}
	for range 4000 {
		c := likelyCluster(x, 1+x.upTo(5))
		if x.upTo(3) == 0 {
			c = madeCluster(x, 1+x.upTo(5))
		}
		switch x.upTo(9) {
		case 0:
			c.Nodes = append(c.Nodes, c.Nodes[:x.upTo(int64(len(c.Nodes)+1))]...)
		case 1:
			c.Nodes = c.Nodes[:x.upTo(int64(len(c.Nodes)))]
		case 2:
			c.Mails = append(c.Mails, manyMails(x.upTo(150))...)
		case 3:
			c.Sealed = append(c.Sealed, logUpTo(x.upTo(80))...)
		}
		anyEnds(x, c)
		codes[wantAudit(t, "any", c).code]++
	}
	if codes[impl.OK] < 1000 || codes[impl.ErrRange] < 200 || codes[impl.ErrForm] < 200 || codes[impl.ErrMany] < 200 {
		t.Errorf("codes %v", codes)
	}
}
