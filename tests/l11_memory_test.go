package tests

import (
	"cmp"
	"math"
	"reflect"
	"slices"
	"testing"

	"loop.example/g00277/impl"
)

// span is the memory of one list, with what stands behind its end.
type span struct {
	from, to uintptr
	path     string
}

// spansIn finds all lists in a value, those inside of lists, too.
func spansIn(v reflect.Value, path string) []span {
	var list []span
	switch v.Kind() {
	case reflect.Struct:
		for i := range v.NumField() {
			list = append(list, spansIn(v.Field(i), path+"."+v.Type().Field(i).Name)...)
		}
	case reflect.Slice:
		if v.Cap() > 0 {
			from := v.Pointer()
			list = append(list, span{from, from + uintptr(v.Cap())*v.Type().Elem().Size(), path})
		}
		for i := range v.Len() {
			list = append(list, spansIn(v.Index(i), path)...)
		}
	}
	return list
}

// wantApart asks that no two lists of all the values have memory in common.
func wantApart(t *testing.T, name string, values ...any) int {
	t.Helper()
	var list []span
	for _, v := range values {
		list = append(list, spansIn(reflect.ValueOf(v), reflect.TypeOf(v).String())...)
	}
	slices.SortFunc(list, func(a, b span) int { return cmp.Compare(a.from, b.from) })
	for i := 1; i < len(list); i++ {
		if list[i].from < list[i-1].to {
			t.Fatalf("%s: %s and %s share memory", name, list[i-1].path, list[i].path)
		}
	}
	return len(list)
}

// roomyCluster has room behind the end of each list, where a careless append would write.
func roomyCluster(c impl.Cluster) impl.Cluster {
	c.Nodes, c.Mails, c.Sealed = roomy(c.Nodes), roomy(c.Mails), roomy(c.Sealed)
	for i, n := range c.Nodes {
		c.Nodes[i] = roomyReplica(n)
	}
	for i, m := range c.Mails {
		c.Mails[i].Log = roomy(m.Log)
	}
	return c
}

// wholeCluster is a copy that has what stands behind the ends of the lists as well.
func wholeCluster(c impl.Cluster) impl.Cluster {
	c.Nodes, c.Mails, c.Sealed = slices.Clone(c.Nodes[:cap(c.Nodes)]), slices.Clone(c.Mails[:cap(c.Mails)]), wholeLog(c.Sealed)
	for i, n := range c.Nodes {
		c.Nodes[i] = wholeReplica(n)
	}
	for i, m := range c.Mails {
		c.Mails[i].Log = wholeLog(m.Log)
	}
	return c
}

func scribbleCluster(c impl.Cluster) {
	markEntries(c.Sealed, -77)
	for _, n := range c.Nodes {
		scribbleReplica(n)
	}
	for _, m := range c.Mails {
		markEntries(m.Log, -77)
	}
	mails, nodes := c.Mails[:cap(c.Mails)], c.Nodes[:cap(c.Nodes)]
	for i := range mails {
		mails[i] = impl.Mail{Kind: -77}
	}
	for i := range nodes {
		nodes[i] = impl.Replica{Id: -77}
	}
}

// keptLists is a cluster whose lists were copied, so that it can be told what was written into it.
type keptLists struct {
	cluster, whole impl.Cluster
}

func keep(c impl.Cluster) keptLists {
	return keptLists{c, wholeCluster(c)}
}

func (k keptLists) wantUnchanged(t *testing.T, name string) {
	t.Helper()
	if then := wholeCluster(k.cluster); !sameCluster(then, k.whole) {
		t.Fatalf("%s: %v became %v", name, k.whole, then)
	}
}

// handMadeClusters have something in each list that there is, and acts of which much comes.
func handMadeClusters() []impl.Cluster {
	begins := askedNode(1, 7, 3, 5, true, true, true)
	begins.Doers[0], begins.Doers[2] = doerOf(6, 9, 9), doerOf(2, 3, 1)
	view := impl.Cluster{Nodes: []impl.Replica{withCommit(leadingNode(6, 4, 4, 2, 1), 3), begins, askedNode(2, 7, 3, 5, true, false, true)}, Sealed: logUpTo(2)}
	view.Mails = []impl.Mail{changeOf(0, 1, 7), doMail(2, 1, 7, 4, logUpTo(6), 5), startOf(1, 2, 7, logUpTo(7), 6), startOf(1, 0, 7, logUpTo(7), 6), getOf(1, 0, 6), doMail(2, 0, 9, 8, logUpTo(9), 1), okOf(1, 0, 6, 4), changeOf(1, 2, 7)}
	full := clusterWith(normalCluster(3, 6, 40), manyMails(117)...)
	full.Mails = append(full.Mails, entryMail(0, 1, 6, 40, 40), bareMail(0, 2, 6, 3, 40), okOf(2, 0, 6, 40))
	alone := withSealed(withNode(normalCluster(1, 6, 5), withCommit(leadingNode(6, 5, 2), 4)), logUpTo(1))
	return []impl.Cluster{view, full, alone, normalCluster(5, 4, 3), eachCluster()}
}

// eachAct has all acts of clusters that were made up, by hand and not. Each time the lists are its own, and roomy.
func eachAct(yield func(c impl.Cluster, a clusterAct) bool) {
	x := &dice{state: 1011}
	list := handMadeClusters()
	for round := range int64(60) {
		list = append(list, madeCluster(x, 1+round%5))
	}
	for _, c := range list {
		acts := actsIn(x, c)
		for at := range int64(min(len(c.Mails), 10)) {
			acts = append(acts, clusterAct{kind: actDeliver, at: at}, clusterAct{kind: actKeep, at: at})
		}
		for _, a := range acts {
			if !yield(roomyCluster(c), a) {
				return
			}
		}
	}
}

func TestActsChangeNoArgument(t *testing.T) {
	codes := map[int64]int{}
	for c, a := range eachAct {
		kept := keep(c)
		got := a.does(c)
		codes[got.Code]++
		kept.wantUnchanged(t, "an act")
	}
	if codes[impl.OK] < 1000 || codes[impl.ErrState] < 50 || codes[impl.ErrMany] < 5 {
		t.Errorf("codes %v", codes)
	}
}

func TestActsShareNoMemory(t *testing.T) {
	lists, sealed := 0, 0
	for c, a := range eachAct {
		got := a.does(c)
		lists += wantApart(t, "an answer and its argument", c, got.Cluster)
		if len(got.Cluster.Sealed) > len(c.Sealed) {
			sealed++
		}
		again := a.does(c)
		wantApart(t, "two answers", got.Cluster, again.Cluster)
		if got.Code != again.Code || !sameCluster(got.Cluster, again.Cluster) {
			t.Fatalf("%v: another answer at the same argument: %v and %v", c, got, again)
		}
	}
	if lists < 50000 || sealed < 100 {
		t.Errorf("%d lists, sealed %d times", lists, sealed)
	}
}

// What is written into an answer is not in the argument, and what is written into the argument is not in the answer.
func TestWhatIsWrittenStaysThere(t *testing.T) {
	for c, a := range eachAct {
		kept := keep(c)
		got := a.does(c)
		want := copyCluster(got.Cluster)
		scribbleCluster(got.Cluster)
		kept.wantUnchanged(t, "the answer was written into")
		got = a.does(c)
		scribbleCluster(c)
		if !sameCluster(got.Cluster, want) {
			t.Fatalf("what is written into the argument is in the answer: %v, want %v", got.Cluster, want)
		}
	}
}

func TestNewClustersShareNoMemory(t *testing.T) {
	for size := int64(1); size <= 5; size++ {
		one, other := impl.NewCluster(size), impl.NewCluster(size)
		wantApart(t, "two new ones", one.Cluster, other.Cluster)
		scribbleCluster(one.Cluster)
		wantCluster(t, "the other one", other, normalCluster(size, 0, 0))
		wantCluster(t, "once more", impl.NewCluster(size), normalCluster(size, 0, 0))
	}
}

// sharingCluster has no fault, but its lists are all pieces of one; an answer of it has each its own.
func sharingCluster() impl.Cluster {
	log := roomy(logUpTo(9))
	c := impl.Cluster{Nodes: []impl.Replica{leadingNode(6, 4, 4, 2, 1), normalNode(1, 3, 6, 5), changingNode(2, 3, 7, 6, 5)}, Sealed: log[:1]}
	for i := range c.Nodes {
		c.Nodes[i].Log = log[:4+i]
	}
	doers := []impl.Doer{{Known: true, Last: 6, Log: log[:8], Commit: 2}, {Known: true, Last: 6, Log: log[:8]}, {}}
	c.Nodes[2].Doers = doers
	for i := range int64(4) {
		c.Mails = append(c.Mails, startOf(0, 1, 6, log[:6], i), doMail(0, 2, 8, 6, log[:7], 3))
	}
	return c
}

func TestListsThatAnArgumentSharesAreApartInTheAnswer(t *testing.T) {
	x := &dice{state: 1012}
	for _, a := range actsIn(x, sharingCluster()) {
		c := sharingCluster()
		kept := keep(c)
		got := a.wantAct(t, c)
		wantApart(t, "an answer", got.Cluster)
		kept.wantUnchanged(t, "lists that share memory")
	}
}

func TestClusterCodesChangeNoArgument(t *testing.T) {
	for _, b := range clusterBreaks() {
		c := roomyCluster(brokenBy(b))
		kept := keep(c)
		impl.ClusterFault(c)
		for _, call := range mailCalls() {
			call(c, 0)
		}
		for _, call := range nodeCalls(writeEntry(1)) {
			call(c, 0)
		}
		kept.wantUnchanged(t, b.name)
	}
	c := roomyCluster(breakableCluster())
	kept := keep(c)
	impl.ClusterFault(c)
	kept.wantUnchanged(t, "no fault")
}

// Nil and an empty list are the same, in the argument and in the answer.
func TestEmptyListsOfClusters(t *testing.T) {
	x := &dice{state: 1013}
	for size := int64(1); size <= 5; size++ {
		for _, c := range []impl.Cluster{normalCluster(size, 0, 0), withNode(normalCluster(size, 3, 0), changingNode(size-1, size, 4, 3, 0))} {
			if size > 1 {
				c.Mails = []impl.Mail{changeOf(0, 1, 5), startOf(1, 0, 1, nil, 0), getOf(1, 0, 0)}
			}
			for _, a := range actsIn(x, c) {
				one, other := a.does(c), a.does(roomyCluster(c))
				if one.Code != other.Code || !sameCluster(one.Cluster, other.Cluster) {
					t.Errorf("%v, and with empty lists %v", one, other)
				}
			}
		}
	}
	wantClusterFault(t, "empty lists", roomyCluster(impl.Cluster{}), impl.ErrMany)
}

// anyEnds breaks a few numbers of a cluster, or none.
func anyEnds(x *dice, c impl.Cluster) {
	ends := []int64{math.MinInt64, math.MinInt64 + 1, -1, 0, 1, 2, 5, 6, 40, 41, 200, 201, 1 << 32, math.MaxInt64 - 1, math.MaxInt64}
	var numbers []*int64
	for i := range c.Nodes {
		n := &c.Nodes[i]
		numbers = append(numbers, &n.Id, &n.Size, &n.View, &n.Last, &n.Commit)
		for i := range n.Oks {
			numbers = append(numbers, &n.Oks[i])
		}
	}
	for i := range c.Mails {
		m := &c.Mails[i]
		numbers = append(numbers, &m.Kind, &m.From, &m.To, &m.View, &m.At, &m.Last, &m.Commit)
	}
	for i := range c.Sealed {
		numbers = append(numbers, &c.Sealed[i].Client, &c.Sealed[i].Seq)
	}
	for range x.upTo(3) {
		if len(numbers) > 0 {
			*numbers[x.upTo(int64(len(numbers)))] = ends[x.upTo(int64(len(ends)))]
		}
	}
}

// faultIn asks part by part, as the chapter tells.
func faultIn(c impl.Cluster) int64 {
	if size := len(c.Nodes); size == 0 || size > 5 || len(c.Mails) > 120 {
		return impl.ErrMany
	}
	for i, n := range c.Nodes {
		if code := impl.ReplicaFault(n); code != impl.OK {
			return code
		}
		if n.Id != int64(i) || n.Size != int64(len(c.Nodes)) {
			return impl.ErrForm
		}
	}
	for _, m := range c.Mails {
		if m.To < 0 || m.To >= int64(len(c.Nodes)) {
			return impl.ErrRange
		}
		if code := impl.MailFault(c.Nodes[m.To], m); code != impl.OK {
			return code
		}
	}
	return impl.LogFault(c.Sealed)
}

// Numbers of any size and sign, in lists of any length, at any place.
func TestAnyClusterIsAnswered(t *testing.T) {
	x := &dice{state: 1014}
	codes := map[int64]int{}
	for range 3000 {
		c := madeCluster(x, 1+x.upTo(5))
		switch x.upTo(8) {
		case 0:
			c.Nodes = append(c.Nodes, c.Nodes[:x.upTo(int64(len(c.Nodes)+1))]...)
		case 1:
			c.Nodes = c.Nodes[:x.upTo(int64(len(c.Nodes)))]
		case 2:
			c.Mails = append(c.Mails, manyMails(x.upTo(6))...)
		}
		anyEnds(x, c)
		code := faultIn(c)
		codes[code]++
		wantClusterFault(t, "any", c, code)
		for _, at := range []int64{0, 1, int64(len(c.Mails)) - 1, int64(len(c.Nodes)), math.MinInt64, math.MaxInt64} {
			a := clusterAct{kind: int(x.upTo(manyActs)), at: at, entry: writeEntry(3)}
			places := len(c.Nodes)
			if a.kind <= actLose {
				places = len(c.Mails)
			}
			switch {
			case code != impl.OK:
				wantClusterCode(t, "a fault", a.does(c), code)
			case at < 0 || at >= int64(places):
				wantClusterCode(t, "no place", a.does(c), impl.ErrRange)
			default:
				a.wantAct(t, c)
			}
		}
	}
	if codes[impl.OK] < 500 || codes[impl.ErrRange] < 200 || codes[impl.ErrForm] < 200 || codes[impl.ErrMany] < 200 {
		t.Errorf("codes %v", codes)
	}
}
