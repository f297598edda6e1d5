package tests

import (
	"math"
	"slices"
	"testing"

	"loop.example/g00277/impl"
)

// hearing is a node and what it hears.
type hearing struct {
	node impl.Replica
	mail impl.Mail
}

func (h hearing) whole() hearing {
	h.node, h.mail.Log = wholeReplica(h.node), wholeLog(h.mail.Log)
	return h
}

func (h hearing) same(other hearing) bool {
	return sameReplica(h.node, other.node) && sameMail(h.mail, other.mail)
}

// roomyMails have room behind their logs, and are of each kind.
func roomyMails(from int64, n impl.Replica, view int64) []impl.Mail {
	length := int64(len(n.Log))
	mails := []impl.Mail{
		entryMail(from, n.Id, view, length, 3), bareMail(from, n.Id, view, length, 5), entryMail(from, n.Id, view, length+1, 9),
		okOf(from, n.Id, view, 4), changeOf(from, n.Id, view), getOf(from, n.Id, view),
		doMail(from, n.Id, view, view, logUpTo(9), 4), doMail(from, n.Id, view, 0, logUpTo(1), 1),
		startOf(from, n.Id, view, logUpTo(length+3), 4), startOf(from, n.Id, view, otherLog(length+3), 1), startOf(from, n.Id, view, logUpTo(length-1), 0),
	}
	for i := range mails {
		mails[i].Log = roomy(mails[i].Log)
	}
	return mails
}

// roomyHearings have each a node and a mail of its own, so that what is written into one is in no other.
func roomyHearings() []hearing {
	var list []hearing
	for at, n := range roomyNodes() {
		for from := range n.Size {
			for view := n.View - 1; view <= n.View+n.Size; view++ {
				for _, m := range roomyMails(from, n, view) {
					if from != n.Id {
						list = append(list, hearing{roomyNodes()[at], m})
					}
				}
			}
		}
	}
	return list
}

func TestHearChangesNoArgument(t *testing.T) {
	for _, h := range roomyHearings() {
		ahead := h.whole()
		if got := impl.HearReplica(h.node, h.mail); got.Code != impl.OK {
			t.Fatalf("%v has the code %d", h, got.Code)
		}
		if !h.whole().same(ahead) {
			t.Fatalf("%v became %v", ahead, h.whole())
		}
	}
}

func TestHearCodesChangeNoArgument(t *testing.T) {
	var list []hearing
	for _, c := range faultyReplicas() {
		list = append(list, hearing{copyReplica(c.replica), mailOf(impl.MailDo, 1, 0, 60)})
	}
	for kind := int64(1); kind <= 6; kind++ {
		for _, b := range mailBreaks(kind) {
			m := mailOf(kind, 1, 2, 60)
			b.do(&m)
			list = append(list, hearing{roomyReplica(mailNodes()[0]), m})
		}
	}
	list = append(list, hearing{roomyReplica(normalNode(1, 3, 3, 40)), entryMail(0, 1, 3, 40, 40)})
	for _, h := range list {
		ahead := h.whole()
		if got := impl.HearReplica(h.node, h.mail); got.Code == impl.OK {
			t.Fatalf("%v has no code", h)
		}
		if !h.whole().same(ahead) {
			t.Fatalf("%v became %v", ahead, h.whole())
		}
	}
}

func TestHearSharesNoMemoryWithAnArgument(t *testing.T) {
	for _, h := range roomyHearings() {
		ahead := h.whole()
		got := impl.HearReplica(h.node, h.mail)
		want := copyAnswer(got)
		scribbleReplica(got.Replica, got.Send...)
		if !h.whole().same(ahead) {
			t.Fatalf("%v: what is written into the answer is in an argument: %v", ahead, h.whole())
		}
		got = impl.HearReplica(h.node, h.mail)
		if !sameAnswer(got, want) {
			t.Fatalf("%v: another answer at the same arguments: %v and %v", ahead, want, got)
		}
		scribbleReplica(h.node, h.mail)
		if !sameAnswer(got, want) {
			t.Fatalf("%v: what is written into an argument is in the answer %v", ahead, got)
		}
	}
}

// Each log of an answer gets a mark of its own; where two share memory one of them loses it.
func TestListsOfWhatIsHeardShareNoMemory(t *testing.T) {
	logs, starts := 0, 0
	for _, h := range roomyHearings() {
		got := impl.HearReplica(h.node, h.mail)
		list := logsIn(got.Replica, got.Send...)
		for i, log := range list {
			markEntries(log, int64(i)+500)
		}
		for i, log := range list {
			logs += min(len(log), 1)
			if !isMarked(log, int64(i)+500) {
				t.Fatalf("%v: the log %d of %v shares memory with another", h, i, got)
			}
		}
		if kinds := kindsOf(got.Send); slices.Contains(kinds, impl.MailStart) && len(kinds) > 1 {
			starts++
		}
	}
	if logs < 1000 || starts < 20 {
		t.Errorf("%d logs, %d times several MailStarts", logs, starts)
	}
}

func TestTellingChangesAndSharesNothing(t *testing.T) {
	for at, n := range roomyNodes() {
		ahead := wholeReplica(n)
		impl.CountAsks(n)
		impl.CountDoers(n)
		impl.ChosenOf(n)
		told := impl.TellOf(n)
		if !sameReplica(wholeReplica(n), ahead) {
			t.Errorf("%v became %v", ahead, wholeReplica(n))
		}
		for i := range told.Mails {
			markEntries(told.Mails[i].Log, -77)
		}
		if !sameReplica(wholeReplica(n), ahead) {
			t.Errorf("%v: what is written into the answer is in the argument", ahead)
		}
		told = impl.TellOf(n)
		scribbleReplica(n)
		again := impl.TellOf(roomyNodes()[at])
		wantMails(t, "written into the argument", told, again.Code, again.Mails...)
	}
}

// Nil and an empty list are the same, in the arguments and in the answer.
func TestHearWithEmptyLists(t *testing.T) {
	known := knowingNode(1, 4, 2, 0, impl.Doer{Known: true}, impl.Doer{}, impl.Doer{})
	for _, n := range []impl.Replica{leadingNode(4, 0, 0, 0, 0), normalNode(1, 3, 3, 0), changingNode(1, 3, 4, 0, 0), known} {
		for view := n.View; view <= n.View+3; view++ {
			for kind := int64(1); kind <= 6; kind++ {
				m := impl.Mail{Kind: kind, From: (n.Id + 1) % 3, To: n.Id, View: view}
				empty := m
				empty.Log = []impl.Entry{}
				if one, other := impl.HearReplica(n, m), impl.HearReplica(roomyReplica(n), empty); !sameAnswer(one, other) || one.Code != impl.OK {
					t.Errorf("%v at %v: %v, and with empty lists %v", n, m, one, other)
				}
			}
		}
		if impl.ChosenOf(n) != impl.ChosenOf(roomyReplica(n)) || impl.CountDoers(n) != impl.CountDoers(roomyReplica(n)) || impl.CountAsks(n) != impl.CountAsks(roomyReplica(n)) {
			t.Errorf("%v: other answers with empty lists", n)
		}
	}
}

// Numbers of any size and sign, in lists of any length, are answered with the code of the one that is asked first, or without one.
func TestAnythingIsHeardWithOrWithoutACode(t *testing.T) {
	ends := []int64{math.MinInt64, math.MinInt64 + 1, -1, 0, 1, 2, 5, 6, 40, 41, 200, 201, 1 << 32, math.MaxInt64 - 1, math.MaxInt64}
	x := &dice{state: 1009}
	end := func() int64 { return ends[x.upTo(int64(len(ends)))] }
	codes := map[int64]int{}
	for range 60000 {
		size := 2 + x.upTo(4)
		n := kinNode(x, x.upTo(size), size, x.upTo(201), x.upTo(2) == 0)
		for range x.upTo(3) {
			numbers := []*int64{&n.Id, &n.Size, &n.View, &n.Last, &n.Commit}
			for i := range n.Oks {
				numbers = append(numbers, &n.Oks[i])
			}
			for i := range n.Doers {
				numbers = append(numbers, &n.Doers[i].Last, &n.Doers[i].Commit)
			}
			*numbers[x.upTo(int64(len(numbers)))] = end()
		}
		m := impl.Mail{Kind: 1 + x.upTo(6), From: x.upTo(size), To: n.Id, View: n.View}
		for range x.upTo(4) {
			*[]*int64{&m.Kind, &m.From, &m.To, &m.View, &m.At, &m.Last, &m.Commit}[x.upTo(7)] = end()
		}
		m.Log = make([]impl.Entry, x.upTo(2)*x.upTo(50))
		fault := impl.ReplicaFault(n)
		wantCode := func(name string, code int64) {
			if fault != impl.OK && code != fault {
				t.Fatalf("%s of %v: got %d, want %d", name, n, code, fault)
			}
		}
		wantCode("ChosenOf", impl.ChosenOf(n).Code)
		wantCode("TellOf", impl.TellOf(n).Code)
		wantCode("CountAsks", impl.CountAsks(n).Code)
		wantCode("CountDoers", impl.CountDoers(n).Code)
		got := impl.HearReplica(n, m)
		if code := impl.MailFault(n, m); code != impl.OK {
			wantReplicaCode(t, "HearReplica", got, code)
		} else if got.Code == impl.OK {
			wantNothingLess(t, n, m, got)
		}
		codes[got.Code]++
	}
	if codes[impl.OK] < 2000 || codes[impl.ErrRange] < 2000 || codes[impl.ErrForm] < 2000 || codes[impl.ErrMany] < 100 {
		t.Errorf("codes %v", codes)
	}
}
