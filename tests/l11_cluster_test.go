package tests

import (
	"math"
	"slices"
	"testing"

	"loop.example/g00277/impl"
)

// normalCluster has no fault: all are normal in the view, with n entries, and no mails are on their way.
func normalCluster(size, view, n int64) impl.Cluster {
	var c impl.Cluster
	for id := range size {
		c.Nodes = append(c.Nodes, normalNode(id, size, view, n))
	}
	return c
}

func clusterWith(c impl.Cluster, mails ...impl.Mail) impl.Cluster {
	c = copyCluster(c)
	c.Mails = append(c.Mails, mails...)
	return c
}

// manyMails has n mails between two nodes, no two that stand behind one another alike.
func manyMails(n int64) []impl.Mail {
	var list []impl.Mail
	for i := range n {
		m := mailOf(1+i%6, i%2, 1-i%2, i%201)
		if m.Kind == impl.MailOk || m.Kind == impl.MailPrepare {
			m.At = i % 41
		}
		list = append(list, m)
	}
	return list
}

func copyMails(list []impl.Mail) []impl.Mail {
	list = slices.Clone(list)
	for i, m := range list {
		list[i].Log = slices.Clone(m.Log)
	}
	return list
}

func copyCluster(c impl.Cluster) impl.Cluster {
	c.Nodes, c.Mails, c.Sealed = slices.Clone(c.Nodes), copyMails(c.Mails), slices.Clone(c.Sealed)
	for i, n := range c.Nodes {
		c.Nodes[i] = copyReplica(n)
	}
	return c
}

func sameCluster(a, b impl.Cluster) bool {
	return slices.EqualFunc(a.Nodes, b.Nodes, sameReplica) && slices.EqualFunc(a.Mails, b.Mails, sameMail) && slices.Equal(a.Sealed, b.Sealed)
}

func wantCluster(t *testing.T, name string, got impl.ClusterResult, want impl.Cluster) {
	t.Helper()
	if got.Code != impl.OK || !sameCluster(got.Cluster, want) {
		t.Fatalf("%s: got %v, want the cluster %v", name, got, want)
	}
	if code := impl.ClusterFault(got.Cluster); code != impl.OK {
		t.Fatalf("%s: the answer %v has the fault %d", name, got.Cluster, code)
	}
}

func wantClusterCode(t *testing.T, name string, got impl.ClusterResult, code int64) {
	t.Helper()
	if got.Code != code || !sameCluster(got.Cluster, impl.Cluster{}) {
		t.Fatalf("%s: got %v, want the code %d alone", name, got, code)
	}
}

func wantClusterFault(t *testing.T, name string, c impl.Cluster, code int64) {
	t.Helper()
	if got := impl.ClusterFault(c); got != code {
		t.Fatalf("%s: %v: got %d, want %d", name, c, got, code)
	}
}

// mailCalls take a place of Mails, nodeCalls one of Nodes.
func mailCalls() map[string]func(c impl.Cluster, at int64) impl.ClusterResult {
	return map[string]func(c impl.Cluster, at int64) impl.ClusterResult{
		"DeliverMail":       func(c impl.Cluster, at int64) impl.ClusterResult { return impl.DeliverMail(c, at, false) },
		"DeliverMail, kept": func(c impl.Cluster, at int64) impl.ClusterResult { return impl.DeliverMail(c, at, true) },
		"LoseMail":          impl.LoseMail,
	}
}

func nodeCalls(x impl.Entry) map[string]func(c impl.Cluster, node int64) impl.ClusterResult {
	return map[string]func(c impl.Cluster, node int64) impl.ClusterResult{
		"TimeoutAt": impl.TimeoutAt,
		"BeatAt":    impl.BeatAt,
		"AskAt":     func(c impl.Cluster, node int64) impl.ClusterResult { return impl.AskAt(c, node, x) },
		"CrashAt":   impl.CrashAt,
	}
}

// clusterBreak makes a fault. One of a lower rank is told ahead of one of a greater. Some need the lists of a node as they were.
type clusterBreak struct {
	name  string
	rank  int
	code  int64
	do    func(c *impl.Cluster)
	lists bool
}

// breakableCluster has no fault: of four nodes of each state, and mails of each kind to the Id 2.
func breakableCluster() impl.Cluster {
	nodes := []impl.Replica{leadingNode(60, 9, 9, 3, 0, 1), normalNode(1, 4, 60, 9), changingNode(2, 4, 61, 60, 9), changingNode(3, 4, 63, 5, 9)}
	c := impl.Cluster{Nodes: nodes, Sealed: logUpTo(4)}
	for kind := int64(1); kind <= 6; kind++ {
		c.Mails = append(c.Mails, mailOf(kind, 0, 2, 60))
	}
	return c
}

// countBreaks are those of how many nodes and mails there are.
func countBreaks() []clusterBreak {
	list := []clusterBreak{
		{name: "no Nodes", code: impl.ErrMany, do: func(c *impl.Cluster) { c.Nodes = nil }},
		{name: "empty Nodes", code: impl.ErrMany, do: func(c *impl.Cluster) { c.Nodes = []impl.Replica{} }},
	}
	for _, more := range []int{2, 3, 100} {
		list = append(list, clusterBreak{name: "too many Nodes", code: impl.ErrMany, do: func(c *impl.Cluster) { c.Nodes = append(c.Nodes, make([]impl.Replica, more)...) }})
	}
	for _, many := range []int{121, 122, 1000} {
		list = append(list, clusterBreak{name: "too many Mails", code: impl.ErrMany, do: func(c *impl.Cluster) { c.Mails = slices.Repeat([]impl.Mail{changeOf(0, 2, 60)}, many) }})
		list = append(list, clusterBreak{name: "too many Mails, all wrong", code: impl.ErrMany, do: func(c *impl.Cluster) { c.Mails = make([]impl.Mail, many) }})
	}
	return list
}

// nodeBreaks are those of each node: first of all that it may have wrong by itself, then of what it is not there.
func nodeBreaks() []clusterBreak {
	var list []clusterBreak
	add := func(name string, rank int, code int64, do func(c *impl.Cluster)) {
		list = append(list, clusterBreak{name: name, rank: rank, code: code, do: do})
	}
	for at := range 4 {
		breaks := slices.Concat(numberBreaks(), listBreaks(at < 2, at == 0))
		if at == 0 {
			breaks = append(breaks, okBreaks()...)
		} else if at > 1 {
			breaks = append(breaks, doerBreaks()...)
		}
		for _, b := range breaks {
			add("a node: "+b.name, 10+2*at, b.code, func(c *impl.Cluster) { b.do(&c.Nodes[at]) })
			list[len(list)-1].lists = b.rank > 2
		}
		add("a node that is nothing", 10+2*at, impl.ErrRange, func(c *impl.Cluster) { c.Nodes[at] = impl.Replica{} })
		for id := range int64(4) {
			if id != int64(at) {
				add("a node of another Id", 11+2*at, impl.ErrForm, func(c *impl.Cluster) { c.Nodes[at] = normalNode(id, 4, 60, 9) })
				add("a node of another Id that changes", 11+2*at, impl.ErrForm, func(c *impl.Cluster) { c.Nodes[at] = changingNode(id, 4, 60, 9, 9) })
			}
		}
		for size := int64(at) + 1; size <= 5; size++ {
			if size != 4 {
				add("a node of another Size", 11+2*at, impl.ErrForm, func(c *impl.Cluster) { c.Nodes[at] = normalNode(int64(at), size, 60, 9) })
				add("a node of another Size that changes", 11+2*at, impl.ErrForm, func(c *impl.Cluster) { c.Nodes[at] = changingNode(int64(at), size, 60, 9, 9) })
			}
		}
	}
	return list
}

// someNodeBreaks are a few of each rank and code, for what is tried in pairs.
func someNodeBreaks() []clusterBreak {
	seen := map[[2]int64]int{}
	return slices.DeleteFunc(nodeBreaks(), func(b clusterBreak) bool {
		key := [2]int64{int64(b.rank), b.code}
		seen[key]++
		return seen[key]%13 != 1
	})
}

// clusterMailBreaks are those of each mail: first of whom it is to, then what it may have wrong at that node.
func clusterMailBreaks() []clusterBreak {
	var list []clusterBreak
	add := func(name string, rank int, code int64, do func(c *impl.Cluster)) {
		list = append(list, clusterBreak{name: name, rank: rank, code: code, do: do})
	}
	for at := range 6 {
		for _, to := range append(badNumbers(0, 3), 5, 6, -2) {
			add("a mail to nobody", 30+2*at, impl.ErrRange, func(c *impl.Cluster) { c.Mails[at].To = to })
		}
		for _, b := range slices.Concat(hadBreaks(int64(at)+1), moreBreaks(int64(at)+1)) {
			add("a mail: "+b.name, 31+2*at, b.code, func(c *impl.Cluster) { b.do(&c.Mails[at]) })
		}
		for _, b := range addressBreaks() {
			if b.name != "To" {
				add("a mail: "+b.name, 31+2*at, b.code, func(c *impl.Cluster) { b.do(&c.Mails[at]) })
			}
		}
		add("a mail to whom it is from", 31+2*at, impl.ErrRange, func(c *impl.Cluster) { c.Mails[at].To = 0 })
		add("a mail that is nothing", 31+2*at, impl.ErrForm, func(c *impl.Cluster) { c.Mails[at] = impl.Mail{} })
	}
	return list
}

func someMailBreaks() []clusterBreak {
	seen := map[[2]int64]int{}
	return slices.DeleteFunc(clusterMailBreaks(), func(b clusterBreak) bool {
		key := [2]int64{int64(b.rank), b.code}
		seen[key]++
		return seen[key]%7 != 1
	})
}

func sealedBreaks() []clusterBreak {
	var list []clusterBreak
	add := func(name string, code int64, log []impl.Entry) {
		list = append(list, clusterBreak{name: "Sealed: " + name, rank: 50, code: code, do: func(c *impl.Cluster) { c.Sealed = log }})
	}
	for _, many := range []int64{41, 42, 1000} {
		add("too many", impl.ErrMany, logUpTo(many))
		add("too many, all wrong", impl.ErrMany, make([]impl.Entry, many))
	}
	for _, c := range faultyEntries() {
		add(c.name, c.code, []impl.Entry{c.entry})
		add("the last one, "+c.name, c.code, logBut(40, 39, c.entry))
	}
	return list
}

func brokenBy(breaks ...clusterBreak) impl.Cluster {
	c := copyCluster(breakableCluster())
	for _, b := range breaks {
		b.do(&c)
	}
	return c
}

func clusterBreaks() []clusterBreak {
	return slices.Concat(countBreaks(), nodeBreaks(), clusterMailBreaks(), sealedBreaks())
}

func someBreaks() []clusterBreak {
	return slices.Concat(countBreaks(), someNodeBreaks(), someMailBreaks(), sealedBreaks()[:40])
}

func TestClusterFault(t *testing.T) {
	if impl.MaxMails != 120 {
		t.Errorf("MaxMails is %d", impl.MaxMails)
	}
	wantClusterFault(t, "none", breakableCluster(), impl.OK)
	wantClusterFault(t, "nothing", impl.Cluster{}, impl.ErrMany)
	breaks := clusterBreaks()
	for _, b := range breaks {
		wantClusterFault(t, b.name, brokenBy(b), b.code)
	}
	if len(breaks) < 1500 {
		t.Errorf("%d faults", len(breaks))
	}
}

// Each fault is told ahead of all that stand behind it.
func TestClusterFaultGoesInOrder(t *testing.T) {
	pairs, ranks := 0, map[int]bool{}
	breaks := someBreaks()
	for _, ahead := range breaks {
		ranks[ahead.rank] = true
		for _, behind := range breaks {
			ofOneNode := ahead.rank >= 10 && ahead.rank < 30 && behind.rank == ahead.rank+1
			if ahead.rank < behind.rank && !(ahead.lists && ofOneNode) {
				pairs++
				wantClusterFault(t, ahead.name+" ahead of "+behind.name, brokenBy(behind, ahead), ahead.code)
			}
		}
	}
	if pairs < 15000 || len(ranks) != 1+8+12+1 {
		t.Errorf("%d pairs of %d ranks", pairs, len(ranks))
	}
}

func TestClusterFaultInOrderByHand(t *testing.T) {
	c := normalCluster(3, 0, 2)
	c.Mails, c.Sealed = slices.Repeat([]impl.Mail{{To: -1}}, 121), logUpTo(41)
	c.Nodes[0].Id, c.Nodes[1].Commit, c.Nodes[2].Size = 7, 9, 0
	wantClusterFault(t, "too many Mails ahead of a node", c, impl.ErrMany)
	c.Mails = c.Mails[:120]
	wantClusterFault(t, "the first node", c, impl.ErrRange)
	c.Nodes[0] = normalNode(0, 2, 0, 2)
	wantClusterFault(t, "Size of the first ahead of Commit of the second", c, impl.ErrForm)
	c.Nodes[0] = normalNode(0, 3, 0, 2)
	wantClusterFault(t, "Commit of the second", c, impl.ErrRange)
	c.Nodes[1] = normalNode(2, 3, 0, 41)
	wantClusterFault(t, "the log of the second ahead of its Id", c, impl.ErrMany)
	c.Nodes[1] = normalNode(2, 3, 0, 2)
	wantClusterFault(t, "the Id of the second ahead of Size of the third", c, impl.ErrForm)
	c.Nodes[1] = normalNode(1, 3, 0, 2)
	wantClusterFault(t, "Size of the third", c, impl.ErrRange)
	c.Nodes[2] = normalNode(2, 3, 0, 2)
	c.Mails = []impl.Mail{{To: 3}, {To: 2}}
	wantClusterFault(t, "To of the first ahead of its Kind", c, impl.ErrRange)
	c.Mails = []impl.Mail{{To: 2}, {To: 3}}
	wantClusterFault(t, "the Kind of the first ahead of To of the second", c, impl.ErrForm)
	c.Mails = []impl.Mail{startOf(0, 2, 0, logUpTo(41), 0), {To: 3}}
	wantClusterFault(t, "the log of the first ahead of To of the second", c, impl.ErrMany)
	c.Mails = []impl.Mail{changeOf(0, 2, 0), {To: 3}}
	wantClusterFault(t, "To of the second ahead of Sealed", c, impl.ErrRange)
	c.Mails = c.Mails[:1]
	wantClusterFault(t, "Sealed", c, impl.ErrMany)
	c.Sealed = logBut(40, 3, impl.Entry{})
	wantClusterFault(t, "an entry of Sealed", c, impl.ErrRange)
	c.Sealed = logUpTo(40)
	wantClusterFault(t, "none", c, impl.OK)
}

// Whatever a node knows, Sealed and mails of all views are as good.
func TestClustersWithoutAFault(t *testing.T) {
	for size := int64(1); size <= 5; size++ {
		for _, n := range soundReplicas() {
			if n.replica.Size != size {
				continue
			}
			c := normalCluster(size, 0, 3)
			c.Nodes[n.replica.Id] = n.replica
			c.Sealed = logUpTo(40)
			if size > 1 {
				c.Mails = manyMails(120)
			}
			wantClusterFault(t, n.name, c, impl.OK)
			c.Sealed, c.Mails = []impl.Entry{}, []impl.Mail{}
			wantClusterFault(t, "empty lists, "+n.name, c, impl.OK)
		}
	}
}

func TestMailsOfEachTwoNodes(t *testing.T) {
	for size := int64(1); size <= 5; size++ {
		for from := range size {
			for to := range size {
				code := int64(impl.OK)
				if from == to {
					code = impl.ErrRange
				}
				for kind := int64(1); kind <= 6; kind++ {
					c := clusterWith(normalCluster(size, 3, 2), mailOf(kind, from, to, 9))
					wantClusterFault(t, "one mail", c, code)
				}
			}
		}
	}
}

func TestNewCluster(t *testing.T) {
	for size := int64(1); size <= 5; size++ {
		got := impl.NewCluster(size)
		wantCluster(t, "new", got, normalCluster(size, 0, 0))
		for id, n := range got.Cluster.Nodes {
			if !sameReplica(n, impl.NewReplica(int64(id), size).Replica) {
				t.Errorf("the node %d is %v", id, n)
			}
		}
	}
	for _, size := range append(badNumbers(1, 5), -1, -5, 7, 1<<32+3) {
		wantClusterCode(t, "no size", impl.NewCluster(size), impl.ErrRange)
	}
}

// The fault of the cluster is told ahead of a place that is none, and of an entry with a fault.
func TestClusterFaultIsToldFirst(t *testing.T) {
	for _, b := range clusterBreaks() {
		c := brokenBy(b)
		for _, at := range []int64{0, 2, -1, 1000} {
			for name, call := range mailCalls() {
				wantClusterCode(t, name+", "+b.name, call(c, at), b.code)
			}
			for name, call := range nodeCalls(impl.Entry{}) {
				wantClusterCode(t, name+", "+b.name, call(c, at), b.code)
			}
		}
	}
}

// farPlaces are no places of a list of n.
func farPlaces(n int64) []int64 {
	return []int64{-1, n, n + 1, -2, -1 - n, 1 << 32, 1 << 62, -1 << 32, math.MinInt64, math.MinInt64 + 1, math.MaxInt64 - 1, math.MaxInt64}
}

func TestNoPlaceOfMails(t *testing.T) {
	for size := int64(1); size <= 5; size++ {
		for _, many := range []int64{0, 1, 2, 7, 119, 120} {
			if size == 1 && many > 0 {
				continue
			}
			c := clusterWith(normalCluster(size, 4, 2), manyMails(many)...)
			for name, call := range mailCalls() {
				for _, at := range farPlaces(many) {
					wantClusterCode(t, name, call(c, at), impl.ErrRange)
				}
				for _, at := range []int64{0, many / 2, many - 1} {
					if got := call(c, at); many > 0 && got.Code != impl.OK {
						t.Errorf("%s at %d of %d: the code %d", name, at, many, got.Code)
					}
				}
			}
		}
	}
}

// A node that is none is told ahead of what a node would tell: of the last view, of another one that is first, of the entry and of no room.
func TestNoPlaceOfNodes(t *testing.T) {
	for size := int64(1); size <= 5; size++ {
		for _, c := range []impl.Cluster{normalCluster(size, 0, 0), normalCluster(size, 200, 40), normalCluster(size, 3, 2)} {
			for _, x := range []impl.Entry{writeEntry(3), {}} {
				for name, call := range nodeCalls(x) {
					for _, node := range farPlaces(size) {
						wantClusterCode(t, name, call(c, node), impl.ErrRange)
					}
					wantClusterCode(t, name+" of no nodes", call(impl.Cluster{}, 0), impl.ErrMany)
				}
			}
			for node := range size {
				for _, call := range []func(c impl.Cluster, node int64) impl.ClusterResult{impl.BeatAt, impl.CrashAt} {
					if got := call(c, node); got.Code != impl.OK {
						t.Errorf("the node %d of %d: the code %d", node, size, got.Code)
					}
				}
			}
		}
	}
}

func TestTimeoutAtTheLastView(t *testing.T) {
	for size := int64(1); size <= 5; size++ {
		for node := range size {
			c := normalCluster(size, 200, 2)
			wantClusterCode(t, "the last view", impl.TimeoutAt(c, node), impl.ErrMany)
			c = normalCluster(size, 199, 2)
			if got := impl.TimeoutAt(c, node); got.Code != impl.OK || got.Cluster.Nodes[node].View != 200 {
				t.Errorf("the view ahead of the last one: %v", got)
			}
			c.Nodes[node] = changingNode(node, size, 200, 199, 2)
			wantClusterCode(t, "the last view, not normal", impl.TimeoutAt(c, node), impl.ErrMany)
		}
	}
}

// Who is not the first tells so ahead of the entry's fault, and that is told ahead of no room.
func TestCodesOfAskAt(t *testing.T) {
	wrong := []entryCase{{"right", writeEntry(3), impl.OK}}
	wrong = append(wrong, faultyEntries()...)
	for size := int64(1); size <= 5; size++ {
		for _, view := range []int64{0, 3, 200} {
			for _, x := range wrong {
				for node := range size {
					c := normalCluster(size, view, 40)
					code := x.code
					if node != view%size {
						code = impl.ErrState
					} else if code == impl.OK {
						code = impl.ErrMany
					}
					wantClusterCode(t, x.name, impl.AskAt(c, node, x.entry), code)
					c.Nodes[node] = changingNode(node, size, view, 0, 40)
					wantClusterCode(t, "not normal, "+x.name, impl.AskAt(c, node, x.entry), impl.ErrState)
				}
			}
		}
	}
}
