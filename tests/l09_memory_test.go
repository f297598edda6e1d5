package tests

import (
	"math"
	"slices"
	"testing"

	"loop.example/g00277/impl"
)

// roomy has all of a list, and room behind it, where a careless append would write.
func roomy[T any](list []T) []T {
	return append(make([]T, 0, len(list)+20), list...)
}

func roomyReplica(n impl.Replica) impl.Replica {
	n.Log, n.Oks, n.Asks, n.Doers = roomy(n.Log), roomy(n.Oks), roomy(n.Asks), roomy(n.Doers)
	for i, d := range n.Doers {
		n.Doers[i].Log = roomy(d.Log)
	}
	return n
}

// wholeReplica has what stands behind the ends of the lists as well.
func wholeReplica(n impl.Replica) impl.Replica {
	n.Log, n.Oks, n.Asks, n.Doers = n.Log[:cap(n.Log)], n.Oks[:cap(n.Oks)], n.Asks[:cap(n.Asks)], slices.Clone(n.Doers[:cap(n.Doers)])
	for i, d := range n.Doers {
		n.Doers[i].Log = d.Log[:cap(d.Log)]
	}
	return copyReplica(n)
}

func markEntries(log []impl.Entry, mark int64) {
	for i := range log[:cap(log)] {
		log[:cap(log)][i] = impl.Entry{Client: mark}
	}
}

func isMarked(log []impl.Entry, mark int64) bool {
	return !slices.ContainsFunc(log[:cap(log)], func(x impl.Entry) bool { return x.Client != mark })
}

// logsIn are all logs of a replica and of mails.
func logsIn(n impl.Replica, mails ...impl.Mail) [][]impl.Entry {
	logs := [][]impl.Entry{n.Log}
	for _, d := range n.Doers {
		logs = append(logs, d.Log)
	}
	for _, m := range mails {
		logs = append(logs, m.Log)
	}
	return logs
}

func scribbleReplica(n impl.Replica, mails ...impl.Mail) {
	for _, log := range logsIn(n, mails...) {
		markEntries(log, -77)
	}
	oks, asks, doers := n.Oks[:cap(n.Oks)], n.Asks[:cap(n.Asks)], n.Doers[:cap(n.Doers)]
	for i := range oks {
		oks[i] = -77
	}
	for i := range asks {
		asks[i] = i%2 == 0
	}
	for i := range doers {
		doers[i] = impl.Doer{Last: -77, Commit: -77}
	}
	for i := range mails {
		mails[i] = impl.Mail{Kind: -77}
	}
}

// roomyNodes are nodes of each state, with something in each list that they have.
func roomyNodes() []impl.Replica {
	lead := leadingNode(6, 5, 5, 3, 4)
	follow := normalNode(1, 3, 6, 5)
	asked := askedNode(0, 7, 3, 5, true, false, true)
	asked.Doers[1], asked.Doers[2] = doerOf(6, 9, 9), doerOf(2, 3, 1)
	first := askedNode(2, 7, 3, 5, true, true, true, true, false)
	first.Doers[0], first.Doers[2], first.Doers[4] = doerOf(6, 40, 9), doerOf(7, 1, 0), doerOf(0, 0, 0)
	alone := leadingNode(6, 5, 3)
	aloneAsked := askedNode(0, 7, 3, 5, true)
	aloneAsked.Doers[0] = doerOf(3, 4, 4)
	var list []impl.Replica
	for _, n := range []impl.Replica{lead, follow, asked, first, alone, aloneAsked} {
		n.Commit = 2
		list = append(list, roomyReplica(n))
	}
	return list
}

func copyAnswer(got impl.ReplicaResult) impl.ReplicaResult {
	got.Replica, got.Send = copyReplica(got.Replica), slices.Clone(got.Send)
	for i, m := range got.Send {
		got.Send[i].Log = slices.Clone(m.Log)
	}
	return got
}

func sameAnswer(a, b impl.ReplicaResult) bool {
	return a.Code == b.Code && sameReplica(a.Replica, b.Replica) && slices.EqualFunc(a.Send, b.Send, sameMail)
}

func TestReplicaCallsChangeNoArgument(t *testing.T) {
	for _, n := range roomyNodes() {
		whole := wholeReplica(n)
		if impl.ReplicaFault(n) != impl.OK {
			t.Fatalf("%v has a fault", n)
		}
		impl.AgreedBy(n)
		for name, call := range replicaCalls() {
			call(n)
			if !sameReplica(wholeReplica(n), whole) {
				t.Errorf("%s changes %v to %v", name, whole, wholeReplica(n))
			}
		}
		for kind := int64(0); kind <= 7; kind++ {
			m := mailOf(kind, n.Id+1, n.Id, 9)
			m.Log = roomy(m.Log)
			ahead := wholeLog(m.Log)
			impl.MailFault(n, m)
			if !sameReplica(wholeReplica(n), whole) || !slices.Equal(wholeLog(m.Log), ahead) {
				t.Errorf("MailFault changes %v or %v", n, m)
			}
		}
	}
}

func TestReplicaCodesChangeNoArgument(t *testing.T) {
	for _, c := range faultyReplicas() {
		ahead := copyReplica(c.replica)
		impl.ReplicaFault(c.replica)
		impl.MailFault(c.replica, mailOf(impl.MailDo, 1, 0, 9))
		impl.AgreedBy(c.replica)
		for _, call := range replicaCalls() {
			call(c.replica)
		}
		if !sameReplica(c.replica, ahead) {
			t.Errorf("%s: changed", c.name)
		}
	}
}

func TestReplicaAnswersShareNoMemory(t *testing.T) {
	for at := range roomyNodes() {
		for name, call := range replicaCalls() {
			n := roomyNodes()[at]
			whole := wholeReplica(n)
			got := call(n)
			want := copyAnswer(got)
			scribbleReplica(got.Replica, got.Send...)
			if !sameReplica(wholeReplica(n), whole) {
				t.Errorf("%s of %v: what is written into its answer is in its argument", name, whole)
			}
			got = call(n)
			scribbleReplica(n)
			if !sameAnswer(got, want) {
				t.Errorf("%s of %v: what is written into its argument is in its answer %v", name, whole, got)
			}
			if again := call(roomyNodes()[at]); !sameAnswer(again, want) {
				t.Errorf("%s of %v: another answer at the same argument: %v", name, whole, again)
			}
		}
	}
}

// Each log of an answer gets a mark of its own; where two share memory one of them loses it.
func TestListsOfOneAnswerShareNoMemory(t *testing.T) {
	logs := 0
	for _, n := range roomyNodes() {
		for name, call := range replicaCalls() {
			got := call(n)
			list := logsIn(got.Replica, got.Send...)
			for i, log := range list {
				markEntries(log, int64(i)+500)
			}
			for i, log := range list {
				logs += min(len(log), 1)
				if !isMarked(log, int64(i)+500) {
					t.Errorf("%s of %v: the log %d shares memory with another", name, n, i)
				}
			}
		}
	}
	if logs < 15 {
		t.Errorf("%d logs", logs)
	}
}

func TestNewReplicasShareNoMemory(t *testing.T) {
	one, other := impl.NewReplica(0, 5), impl.NewReplica(0, 5)
	scribbleReplica(one.Replica)
	wantReplica(t, "two new ones", other, normalNode(0, 5, 0, 0))
	wantReplica(t, "once more", impl.NewReplica(0, 5), normalNode(0, 5, 0, 0))
}

// Nil and an empty list are the same, in the argument and in the answer.
func TestEmptyListsOfNodes(t *testing.T) {
	for _, n := range []impl.Replica{leadingNode(0, 0, 0, 0, 0), normalNode(1, 3, 0, 0), changingNode(1, 3, 1, 0, 0), leadingNode(4, 0, 0), changingNode(0, 1, 9, 9, 0)} {
		for name, call := range replicaCalls() {
			if full, empty := call(n), call(roomyReplica(n)); !sameAnswer(full, empty) {
				t.Errorf("%s of %v: %v, and with empty lists %v", name, n, full, empty)
			}
		}
	}
}

// Numbers of any size and sign, in lists of any length, are answered with a code or without one.
func TestNodesAreAnsweredWhateverTheyAre(t *testing.T) {
	ends := []int64{math.MinInt64, math.MinInt64 + 1, -1, 0, 1, 2, 5, 6, 200, 201, 1 << 32, math.MaxInt64 - 1, math.MaxInt64}
	x := &dice{state: 909}
	end := func() int64 { return ends[x.upTo(int64(len(ends)))] }
	small := func() int64 { return []int64{0, 1, 2, 3, end()}[x.upTo(5)] }
	codes := map[int64]int{}
	for range 60000 {
		n := impl.Replica{Id: small(), Size: 1 + small()%5, View: small(), Normal: x.upTo(2) == 0, Last: small(), Log: logUpTo(x.upTo(4)), Commit: small()}
		n.Oks, n.Asks, n.Doers = make([]int64, x.upTo(6)), make([]bool, x.upTo(6)), make([]impl.Doer, x.upTo(6))
		if x.upTo(3) > 0 && n.Size > 0 {
			n.Last, n.Commit, n.Id = n.View, 0, n.Id%n.Size
			lists := map[bool]int64{true: 0, false: n.Size}
			n.Asks, n.Doers = make([]bool, lists[n.Normal]), make([]impl.Doer, lists[n.Normal])
			n.Oks = make([]int64, lists[!n.Normal || n.View%n.Size != n.Id])
		}
		for i := range n.Oks {
			n.Oks[i] = small()
		}
		for i := range n.Doers {
			n.Doers[i] = impl.Doer{Known: x.upTo(2) == 0, Last: small(), Log: logUpTo(x.upTo(3)), Commit: small()}
		}
		code := impl.ReplicaFault(n)
		codes[code]++
		m := impl.Mail{Kind: small(), From: small(), To: small(), View: end(), At: end(), Last: end(), Log: make([]impl.Entry, x.upTo(50)), Commit: end()}
		if got := impl.MailFault(n, m); code != impl.OK && got != code {
			t.Fatalf("%v: MailFault tells %d, ReplicaFault %d", n, got, code)
		}
		for name, call := range replicaCalls() {
			got := call(n)
			if code != impl.OK {
				wantReplicaCode(t, name, got, code)
			} else if got.Code != impl.OK {
				wantReplicaCode(t, name, got, got.Code)
			}
			wantHeard(t, name, n, got)
		}
	}
	if codes[impl.OK] < 500 || codes[impl.ErrRange] < 500 || codes[impl.ErrForm] < 500 {
		t.Errorf("codes %v", codes)
	}
}
