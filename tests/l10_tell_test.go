package tests

import (
	"slices"
	"testing"

	"loop.example/g00277/impl"
)

// knowingNode is not normal, and knows what others told of themselves, each at its place (zero: nothing).
func knowingNode(id, view, last, n int64, doers ...impl.Doer) impl.Replica {
	r := changingNode(id, int64(len(doers)), view, last, n)
	r.Doers = doers
	return r
}

// doOf is what a node tells of itself.
func doOf(n impl.Replica, to int64) impl.Mail {
	return impl.Mail{Kind: impl.MailDo, From: n.Id, To: to, View: n.View, Last: n.Last, Log: n.Log, Commit: n.Commit}
}

func wantMails(t *testing.T, name string, got impl.MailsResult, code int64, mails ...impl.Mail) {
	t.Helper()
	if got.Code != code || !slices.EqualFunc(got.Mails, mails, sameMail) {
		t.Fatalf("%s: got %v, want the code %d and %v", name, got, code, mails)
	}
}

// askersIn counts those of Asks that are so.
func askersIn(n impl.Replica) int64 {
	return int64(len(slices.DeleteFunc(slices.Clone(n.Asks), func(asks bool) bool { return !asks })))
}

// knownIn has the Ids of itself and of the others that are Known.
func knownIn(n impl.Replica) []int64 {
	var ids []int64
	for id := range n.Size {
		if id == n.Id || len(n.Doers) > 0 && n.Doers[id].Known {
			ids = append(ids, id)
		}
	}
	return ids
}

// ownDoer is what one of a node's Ids is known to have, its own as well.
func ownDoer(n impl.Replica, id int64) impl.Doer {
	if id == n.Id {
		return impl.Doer{Known: true, Last: n.Last, Log: n.Log, Commit: n.Commit}
	}
	return n.Doers[id]
}

// chosenIn narrows those that are known down by Last, then by length, then to the first Id.
func chosenIn(n impl.Replica) int64 {
	ids := knownIn(n)
	keepGreatest := func(number func(id int64) int64) {
		most := int64(-1)
		for _, id := range ids {
			most = max(most, number(id))
		}
		ids = slices.DeleteFunc(ids, func(id int64) bool { return number(id) != most })
	}
	keepGreatest(func(id int64) int64 { return ownDoer(n, id).Last })
	keepGreatest(func(id int64) int64 { return int64(len(ownDoer(n, id).Log)) })
	return slices.Min(ids)
}

func isPrimary(n impl.Replica) bool {
	return n.View%n.Size == n.Id
}

func TestTellingCallsTellTheReplicaFirst(t *testing.T) {
	for _, c := range faultyReplicas() {
		wantInt(t, "CountAsks, "+c.name, impl.CountAsks(c.replica), c.code, 0)
		wantInt(t, "CountDoers, "+c.name, impl.CountDoers(c.replica), c.code, 0)
		wantInt(t, "ChosenOf, "+c.name, impl.ChosenOf(c.replica), c.code, 0)
		wantMails(t, "TellOf, "+c.name, impl.TellOf(c.replica), c.code)
	}
}

func TestCountAsksByHand(t *testing.T) {
	for _, c := range []struct {
		name  string
		node  impl.Replica
		count int64
	}{
		{"a primary", leadingNode(3, 5, 1, 2, 3), 0},
		{"one that follows", normalNode(1, 3, 3, 5), 0},
		{"itself alone", changingNode(1, 3, 3, 2, 5), 1},
		{"nobody", askedNode(1, 7, 3, 2, false, false, false), 0},
		{"another alone", askedNode(1, 7, 3, 2, false, false, true), 1},
		{"all of five", askedNode(1, 7, 3, 2, true, true, true, true, true), 5},
		{"some of five", askedNode(4, 7, 3, 2, true, false, true, false, true), 3},
		{"alone", askedNode(0, 7, 3, 2, true), 1},
		{"alone, and does not ask", askedNode(0, 7, 3, 2, false), 0},
	} {
		wantInt(t, c.name, impl.CountAsks(c.node), impl.OK, c.count)
	}
}

func TestCountDoersByHand(t *testing.T) {
	some := doerOf(2, 3, 1)
	none := impl.Doer{}
	for _, c := range []struct {
		name  string
		node  impl.Replica
		count int64
	}{
		{"a primary", leadingNode(3, 5, 1, 2, 3), 1},
		{"one that follows", normalNode(1, 3, 3, 5), 1},
		{"none known", changingNode(1, 3, 3, 2, 5), 1},
		{"another one", knowingNode(1, 4, 2, 5, some, none, none), 2},
		{"itself counts once", knowingNode(1, 4, 2, 5, none, some, none), 1},
		{"itself counts once beside another", knowingNode(1, 4, 2, 5, none, some, some), 2},
		{"all", knowingNode(1, 4, 2, 5, some, some, some), 3},
		{"one that has nothing", knowingNode(0, 4, 2, 5, none, impl.Doer{Known: true}, none, none, none), 2},
		{"all others of five", knowingNode(4, 4, 2, 5, some, some, some, some, none), 5},
		{"not the primary", knowingNode(3, 4, 2, 5, some, some, none, none, none), 3},
		{"alone", knowingNode(0, 4, 2, 5, none), 1},
		{"alone, and told itself", knowingNode(0, 4, 2, 5, some), 1},
	} {
		wantInt(t, c.name, impl.CountDoers(c.node), impl.OK, c.count)
	}
}

func TestTellOfByHand(t *testing.T) {
	n := askedNode(0, 7, 3, 5, true, false, false)
	n.Commit = 2
	wantMails(t, "too few ask, and it tells all the same", impl.TellOf(n), impl.OK,
		impl.Mail{Kind: 4, From: 0, To: 1, View: 7, Last: 3, Log: logUpTo(5), Commit: 2})
	n = askedNode(4, 200, 200, 40, true, true, true, true, true)
	n.Commit = 40
	wantMails(t, "the last view", impl.TellOf(n), impl.OK,
		impl.Mail{Kind: 4, From: 4, To: 0, View: 200, Last: 200, Log: logUpTo(40), Commit: 40})
	n = knowingNode(0, 1, 0, 0, doerOf(1, 9, 9), doerOf(1, 3, 3))
	wantMails(t, "of itself, not of what stands at its place among Doers", impl.TellOf(n), impl.OK,
		impl.Mail{Kind: 4, From: 0, To: 1, View: 1})
	wantMails(t, "the primary of View", impl.TellOf(askedNode(1, 7, 3, 5, true, true, true)), impl.OK)
	wantMails(t, "alone", impl.TellOf(askedNode(0, 7, 3, 5, true)), impl.OK)
	wantMails(t, "a normal primary", impl.TellOf(leadingNode(7, 5, 1, 2, 3)), impl.ErrState)
	wantMails(t, "one that follows", impl.TellOf(normalNode(0, 3, 7, 5)), impl.ErrState)
	wantMails(t, "alone and normal", impl.TellOf(leadingNode(7, 5, 1)), impl.ErrState)
}

func TestChosenOfByHand(t *testing.T) {
	none := impl.Doer{}
	for _, c := range []struct {
		name string
		node impl.Replica
		id   int64
	}{
		{"none known", changingNode(1, 3, 7, 0, 0), 1},
		{"a greater view", knowingNode(1, 7, 3, 9, doerOf(4, 1, 0), none, none), 0},
		{"a lower view, and a longer log", knowingNode(1, 7, 3, 1, doerOf(2, 40, 40), none, none), 1},
		{"a longer log", knowingNode(1, 7, 3, 4, none, none, doerOf(3, 5, 0)), 2},
		{"a shorter log", knowingNode(1, 7, 3, 4, none, none, doerOf(3, 3, 3)), 1},
		{"as good, ahead of it", knowingNode(1, 7, 3, 4, doerOf(3, 4, 4), none, none), 0},
		{"as good, behind it", knowingNode(1, 7, 3, 4, none, none, doerOf(3, 4, 4)), 1},
		{"two others as good", knowingNode(1, 7, 3, 4, doerOf(5, 4, 0), none, doerOf(5, 4, 4)), 0},
		{"the longest of the greatest view", knowingNode(0, 5, 3, 4, none, doerOf(4, 9, 0), doerOf(4, 8, 4), doerOf(4, 10, 1), doerOf(2, 40, 4)), 3},
		{"who is not Known is left out", knowingNode(4, 9, 0, 0, none, none, none, doerOf(0, 1, 1), none), 3},
		{"what stands at its own place counts for nothing", knowingNode(1, 7, 3, 4, doerOf(3, 5, 0), doerOf(200, 40, 40), none), 0},
		{"a view beyond its own", knowingNode(1, 7, 7, 40, doerOf(200, 0, 0), none, none), 0},
		{"alone", knowingNode(0, 7, 3, 4, none), 0},
		{"alone, and told itself", knowingNode(0, 7, 3, 4, doerOf(7, 9, 9)), 0},
	} {
		wantInt(t, c.name, impl.ChosenOf(c.node), impl.OK, c.id)
	}
	wantInt(t, "a normal primary", impl.ChosenOf(leadingNode(7, 5, 1, 2, 3)), impl.ErrState, 0)
	wantInt(t, "one that follows", impl.ChosenOf(normalNode(0, 3, 7, 5)), impl.ErrState, 0)
	wantInt(t, "alone and normal", impl.ChosenOf(leadingNode(7, 5, 1)), impl.ErrState, 0)
	wantInt(t, "not the primary", impl.ChosenOf(knowingNode(0, 7, 3, 4, none, doerOf(3, 5, 0), none)), impl.ErrState, 0)
}

func TestTellingOfManyNodes(t *testing.T) {
	chosen := map[bool]int{}
	for _, n := range eachNode {
		wantInt(t, "CountAsks", impl.CountAsks(n), impl.OK, askersIn(n))
		wantInt(t, "CountDoers", impl.CountDoers(n), impl.OK, int64(len(knownIn(n))))
		first := n.View % n.Size
		switch {
		case n.Normal:
			wantMails(t, "TellOf", impl.TellOf(n), impl.ErrState)
		case first == n.Id:
			wantMails(t, "TellOf", impl.TellOf(n), impl.OK)
		default:
			wantMails(t, "TellOf", impl.TellOf(n), impl.OK, doOf(n, first))
			wantMailFault(t, "TellOf", impl.NewReplica(first, n.Size).Replica, impl.TellOf(n).Mails[0], impl.OK)
		}
		if n.Normal || first != n.Id {
			wantInt(t, "ChosenOf", impl.ChosenOf(n), impl.ErrState, 0)
			continue
		}
		wantInt(t, "ChosenOf", impl.ChosenOf(n), impl.OK, chosenIn(n))
		chosen[chosenIn(n) == n.Id]++
	}
	if chosen[true] < 200 || chosen[false] < 200 {
		t.Errorf("chosen by whether it is itself: %v", chosen)
	}
}
