package tests

import (
	"math"
	"slices"
	"testing"

	"loop.example/g00277/impl"
)

func getOf(from, to, view int64) impl.Mail {
	return impl.Mail{Kind: impl.MailGet, From: from, To: to, View: view}
}

func okOf(from, to, view, at int64) impl.Mail {
	return impl.Mail{Kind: impl.MailOk, From: from, To: to, View: view, At: at}
}

func startOf(from, to, view int64, log []impl.Entry, commit int64) impl.Mail {
	return impl.Mail{Kind: impl.MailStart, From: from, To: to, View: view, Log: log, Commit: commit}
}

// bareMail is a MailPrepare without an entry.
func bareMail(from, to, view, at, commit int64) impl.Mail {
	return impl.Mail{Kind: impl.MailPrepare, From: from, To: to, View: view, At: at, Commit: commit}
}

// entryMail is a MailPrepare of an entry that no log of these tests has.
func entryMail(from, to, view, at, commit int64) impl.Mail {
	m := bareMail(from, to, view, at, commit)
	m.Has, m.Entry = true, newEntry()
	return m
}

func newEntry() impl.Entry {
	return entryOf(98, 997, opOf(impl.OpDelete, 97, 0, 0))
}

func withCommit(n impl.Replica, commit int64) impl.Replica {
	n.Commit = commit
	return n
}

// withNew has one entry more.
func withNew(n impl.Replica) impl.Replica {
	n = copyReplica(n)
	n.Log = append(n.Log, newEntry())
	return n
}

func wantHear(t *testing.T, name string, n impl.Replica, m impl.Mail, want impl.Replica, sent ...impl.Mail) {
	t.Helper()
	got := impl.HearReplica(n, m)
	wantReplica(t, name, got, want, sent...)
	wantHeard(t, name, n, got)
}

func TestHearTellsTheReplicaFirst(t *testing.T) {
	for _, c := range faultyReplicas() {
		to := c.replica.Id
		wantReplicaCode(t, "no mail, "+c.name, impl.HearReplica(c.replica, impl.Mail{}), c.code)
		wantReplicaCode(t, "all wrong, "+c.name, impl.HearReplica(c.replica, impl.Mail{Kind: 7, From: -1, To: -1, View: -1, At: -1, Log: logUpTo(41), Commit: -1}), c.code)
		for kind := int64(1); kind <= 6; kind++ {
			wantReplicaCode(t, c.name, impl.HearReplica(c.replica, mailOf(kind, (to+1)%3, to, 100)), c.code)
			wantReplicaCode(t, "an elder view, "+c.name, impl.HearReplica(c.replica, mailOf(kind, (to+1)%3, to, 0)), c.code)
		}
	}
}

// A mail that has a fault is told of whatever view it is, also of an elder one, and at whatever node.
func TestHearTellsTheMailNext(t *testing.T) {
	full := normalNode(2, 4, 60, 40)
	for _, n := range append(mailNodes(), full, askedNode(2, 60, 3, 40, true, true, true, true)) {
		for kind := int64(1); kind <= 6; kind++ {
			for _, b := range mailBreaks(kind) {
				m := mailOf(kind, 0, 2, 60)
				b.do(&m)
				wantReplicaCode(t, b.name, impl.HearReplica(n, m), b.code)
			}
		}
	}
	late := entryMail(0, 2, 60, 40, 0)
	late.Entry.Seq = 0
	wantReplicaCode(t, "the entry ahead of no room", impl.HearReplica(full, late), impl.ErrRange)
}

func TestHearAlone(t *testing.T) {
	for _, n := range []impl.Replica{leadingNode(4, 5, 3), askedNode(0, 4, 2, 5, true)} {
		for _, from := range []int64{math.MinInt64, -1, 0, 1, 2, math.MaxInt64} {
			for kind := int64(1); kind <= 6; kind++ {
				wantReplicaCode(t, "nobody else is there", impl.HearReplica(n, mailOf(kind, from, 0, 4)), impl.ErrRange)
			}
		}
	}
}

// Nothing comes of a mail of an elder view, of whatever kind, at whatever node.
func TestElderViews(t *testing.T) {
	for size := int64(2); size <= 5; size++ {
		for id := range size {
			for _, view := range []int64{1, 2, 3, 4, 5, 100, 199, 200} {
				known := changingNode(id, size, view, view-1, 5)
				for i := range size {
					known.Asks[i], known.Doers[i] = true, doerOf(view, 7, 3)
				}
				for _, n := range []impl.Replica{normalNode(id, size, view, 5), normalNode(id, size, view, 40), changingNode(id, size, view, view-1, 0), known} {
					for _, elder := range slices.Compact([]int64{0, view / 2, view - 1}) {
						for from := range size {
							if from != id {
								for _, m := range soundMails(from, id, elder) {
									wantHear(t, "an elder view", n, m, n)
								}
							}
						}
					}
				}
			}
		}
	}
}

func TestPrepareAtOneThatFollows(t *testing.T) {
	n := withCommit(normalNode(1, 3, 3, 5), 2)
	ok := func(at int64) impl.Mail { return okOf(1, 0, 3, at) }
	for _, c := range []struct {
		name string
		mail impl.Mail
		want impl.Replica
		sent impl.Mail
	}{
		{"the next entry", entryMail(0, 1, 3, 5, 0), withNew(n), ok(6)},
		{"the next entry, Commit as it was", entryMail(0, 1, 3, 5, 2), withNew(n), ok(6)},
		{"the next entry, Commit between", entryMail(0, 1, 3, 5, 4), withCommit(withNew(n), 4), ok(6)},
		{"the next entry, Commit ahead of it", entryMail(0, 1, 3, 5, 5), withCommit(withNew(n), 5), ok(6)},
		{"the next entry, Commit at it", entryMail(0, 1, 3, 5, 6), withCommit(withNew(n), 6), ok(6)},
		{"the next entry, Commit beyond it", entryMail(0, 1, 3, 5, 7), withCommit(withNew(n), 6), ok(6)},
		{"the next entry, the greatest Commit", entryMail(0, 1, 3, 5, 40), withCommit(withNew(n), 6), ok(6)},
		{"no entry at the end", bareMail(0, 1, 3, 5, 1), n, ok(5)},
		{"no entry at the end, Commit between", bareMail(0, 1, 3, 5, 3), withCommit(n, 3), ok(5)},
		{"no entry at the end, Commit at the end", bareMail(0, 1, 3, 5, 5), withCommit(n, 5), ok(5)},
		{"no entry at the end, Commit beyond", bareMail(0, 1, 3, 5, 6), withCommit(n, 5), ok(5)},
		{"an entry below", entryMail(0, 1, 3, 4, 0), n, ok(5)},
		{"an entry below, Commit between", entryMail(0, 1, 3, 4, 4), withCommit(n, 4), ok(5)},
		{"an entry below, Commit beyond", entryMail(0, 1, 3, 0, 40), withCommit(n, 5), ok(5)},
		{"no entry, below", bareMail(0, 1, 3, 0, 0), n, ok(5)},
		{"no entry, below, Commit between", bareMail(0, 1, 3, 4, 3), withCommit(n, 3), ok(5)},
		{"an entry above", entryMail(0, 1, 3, 6, 0), n, getOf(1, 0, 3)},
		{"an entry above, Commit beyond", entryMail(0, 1, 3, 6, 6), n, getOf(1, 0, 3)},
		{"an entry far above, Commit between", entryMail(0, 1, 3, 40, 4), n, getOf(1, 0, 3)},
		{"no entry, above", bareMail(0, 1, 3, 6, 4), n, getOf(1, 0, 3)},
		{"no entry, far above", bareMail(0, 1, 3, 40, 40), n, getOf(1, 0, 3)},
		{"from one that follows, too", entryMail(2, 1, 3, 5, 0), withNew(n), okOf(1, 2, 3, 6)},
		{"above, from one that follows, too", entryMail(2, 1, 3, 6, 0), n, getOf(1, 2, 3)},
	} {
		wantHear(t, c.name, n, c.mail, c.want, c.sent)
	}
	empty := normalNode(1, 2, 0, 0)
	wantHear(t, "the first entry", empty, entryMail(0, 1, 0, 0, 1), withCommit(withNew(empty), 1), okOf(1, 0, 0, 1))
	wantHear(t, "no entries at all", empty, bareMail(0, 1, 0, 0, 9), empty, okOf(1, 0, 0, 0))
	wantHear(t, "the second ahead of the first", empty, entryMail(0, 1, 0, 1, 1), empty, getOf(1, 0, 0))
}

func TestPrepareWithNoRoom(t *testing.T) {
	for _, commit := range []int64{0, 7, 40} {
		full := withCommit(normalNode(1, 3, 3, 40), 7)
		wantReplicaCode(t, "it would be the last one", impl.HearReplica(full, entryMail(0, 1, 3, 40, commit)), impl.ErrMany)
		wantHear(t, "no entry", full, bareMail(0, 1, 3, 40, commit), withCommit(full, max(7, commit)), okOf(1, 0, 3, 40))
		wantHear(t, "an entry below", full, entryMail(0, 1, 3, 39, commit), withCommit(full, max(7, commit)), okOf(1, 0, 3, 40))
		wantHear(t, "of a View above", full, entryMail(0, 1, 6, 40, commit), full, getOf(1, 0, 6))
		wantHear(t, "of an elder View", full, entryMail(0, 1, 2, 40, commit), full)
		lead := leadingNode(3, 40, 40, 1, 2)
		wantHear(t, "at the primary", lead, entryMail(1, 0, 3, 40, commit), lead)
		changing := changingNode(1, 3, 3, 2, 40)
		wantHear(t, "at one that is not normal", changing, entryMail(0, 1, 3, 40, commit), changing, getOf(1, 0, 3))
		room := withCommit(normalNode(1, 3, 3, 39), 7)
		wantHear(t, "room for one", room, entryMail(0, 1, 3, 39, commit), withCommit(withNew(room), max(7, commit)), okOf(1, 0, 3, 40))
		wantHear(t, "above, with room for one", room, entryMail(0, 1, 3, 40, commit), room, getOf(1, 0, 3))
	}
}

func TestPrepareOfAnotherState(t *testing.T) {
	lead := withCommit(leadingNode(3, 5, 0, 2, 1), 1)
	follow := withCommit(normalNode(1, 3, 3, 5), 2)
	changing := withCommit(askedNode(2, 3, 1, 5, true, true, true), 2)
	first := knowingNode(0, 3, 1, 5, doerOf(0, 0, 0), doerOf(2, 7, 7), doerOf(2, 7, 7))
	for _, m := range []impl.Mail{entryMail(0, 0, 3, 5, 5), bareMail(0, 0, 3, 5, 5), entryMail(0, 0, 3, 2, 5), entryMail(0, 0, 3, 9, 5), bareMail(0, 0, 3, 0, 0)} {
		at := func(from, to, view int64) impl.Mail {
			m.From, m.To, m.View = from, to, view
			return m
		}
		wantHear(t, "its own View, at the primary", lead, at(1, 0, 3), lead)
		wantHear(t, "its own View, not normal", changing, at(0, 2, 3), changing, getOf(2, 0, 3))
		wantHear(t, "its own View, not normal, from one that is not the primary", changing, at(1, 2, 3), changing, getOf(2, 1, 3))
		wantHear(t, "its own View, not normal, the primary", first, at(2, 0, 3), first, getOf(0, 2, 3))
		for _, view := range []int64{4, 5, 6, 200} {
			wantHear(t, "a View above, at the primary", lead, at(1, 0, view), lead, getOf(0, 1, view))
			wantHear(t, "a View above, at one that follows", follow, at(2, 1, view), follow, getOf(1, 2, view))
			wantHear(t, "a View above, not normal", changing, at(1, 2, view), changing, getOf(2, 1, view))
			wantHear(t, "a View above, not normal, the primary", first, at(2, 0, view), first, getOf(0, 2, view))
		}
	}
}

func TestOkAtThePrimary(t *testing.T) {
	for _, c := range []struct {
		name   string
		view   int64
		oks    []int64
		from   int64
		at     int64
		want   []int64
		commit int64
	}{
		{"below what is known", 3, []int64{0, 2, 1}, 1, 1, []int64{0, 2, 1}, 2},
		{"what is known", 3, []int64{0, 2, 1}, 1, 2, []int64{0, 2, 1}, 2},
		{"between", 3, []int64{0, 2, 1}, 1, 4, []int64{0, 4, 1}, 4},
		{"all entries", 3, []int64{0, 2, 1}, 1, 5, []int64{0, 5, 1}, 5},
		{"above the entries", 3, []int64{0, 2, 1}, 1, 6, []int64{0, 5, 1}, 5},
		{"far above the entries", 3, []int64{0, 2, 1}, 2, 40, []int64{0, 2, 5}, 5},
		{"none", 3, []int64{0, 0, 0}, 2, 0, []int64{0, 0, 0}, 1},
		{"more is agreed than it knew, whatever comes", 3, []int64{0, 4, 0}, 2, 0, []int64{0, 4, 0}, 4},
		{"it knew of more", 3, []int64{0, 0, 0}, 2, 1, []int64{0, 0, 1}, 1},
		{"both of two", 2, []int64{0, 1}, 1, 3, []int64{0, 3}, 3},
		{"two of four are too few", 4, []int64{0, 0, 0, 0}, 3, 5, []int64{0, 0, 0, 5}, 1},
		{"three of four", 4, []int64{0, 4, 0, 0}, 3, 5, []int64{0, 4, 0, 5}, 4},
		{"two of five are too few", 9, []int64{0, 0, 0, 0, 0}, 0, 5, []int64{5, 0, 0, 0, 0}, 1},
		{"three of five", 9, []int64{0, 0, 3, 0, 0}, 0, 5, []int64{5, 0, 3, 0, 0}, 3},
		{"its own Ok stays", 9, []int64{0, 0, 3, 4, 2}, 3, 5, []int64{0, 0, 3, 5, 2}, 3},
	} {
		n := withCommit(leadingNode(c.view, 5, c.oks...), 1)
		wantHear(t, c.name, n, okOf(c.from, n.Id, c.view, c.at), withCommit(leadingNode(c.view, 5, c.want...), c.commit))
	}
	n := withCommit(leadingNode(3, 5, 0, 2, 1), 5)
	wantHear(t, "Commit does not fall", n, okOf(1, 0, 3, 3), withCommit(leadingNode(3, 5, 0, 3, 1), 5))
	empty := leadingNode(0, 0, 0, 0)
	wantHear(t, "no entries", empty, okOf(1, 0, 0, 40), empty)
}

func TestOkOfAnotherState(t *testing.T) {
	lead := leadingNode(3, 5, 0, 2, 1)
	follow := normalNode(1, 3, 3, 5)
	changing := askedNode(2, 3, 1, 5, true, true, true)
	first := knowingNode(0, 3, 1, 5, doerOf(0, 0, 0), doerOf(2, 7, 7), doerOf(2, 7, 7))
	for _, at := range []int64{0, 1, 4, 5, 6, 40} {
		wantHear(t, "at one that follows", follow, okOf(0, 1, 3, at), follow)
		wantHear(t, "at one that is not normal", changing, okOf(0, 2, 3, at), changing)
		wantHear(t, "at the primary that is not normal", first, okOf(1, 0, 3, at), first)
		for _, view := range []int64{4, 5, 6, 9, 200} {
			wantHear(t, "a View above, at the primary", lead, okOf(1, 0, view, at), lead)
			wantHear(t, "a View above, at one that follows", follow, okOf(0, 1, view, at), follow)
			wantHear(t, "a View above, at one that is not normal", changing, okOf(0, 2, view, at), changing)
			wantHear(t, "a View above, at the primary that is not normal", first, okOf(1, 0, view, at), first)
		}
	}
}

func TestGet(t *testing.T) {
	lead := withCommit(leadingNode(4, 5, 1, 2, 3), 2)
	for _, from := range []int64{0, 2} {
		wantHear(t, "at the primary", lead, getOf(from, 1, 4), lead, startOf(1, from, 4, logUpTo(5), 2))
	}
	empty := leadingNode(200, 0, 0, 0)
	wantHear(t, "no entries", empty, getOf(1, 0, 200), empty, startOf(0, 1, 200, nil, 0))
	full := withCommit(leadingNode(7, 40, 0, 0, 0, 0, 0), 40)
	wantHear(t, "40 entries", full, getOf(4, 2, 7), full, startOf(2, 4, 7, logUpTo(40), 40))
	more := withCommit(leadingNode(4, 5, 5, 5, 5), 2)
	wantHear(t, "more is agreed than it knew", more, getOf(0, 1, 4), more, startOf(1, 0, 4, logUpTo(5), 2))
	for _, view := range []int64{5, 6, 7, 200} {
		wantHear(t, "a View above", lead, getOf(0, 1, view), lead)
	}
	follow := normalNode(0, 3, 4, 5)
	first := askedNode(1, 4, 3, 5, true, true, true)
	changing := askedNode(0, 4, 3, 5, true, true, true)
	for _, view := range []int64{4, 5, 6, 7, 200} {
		wantHear(t, "at one that follows", follow, getOf(2, 0, view), follow)
		wantHear(t, "at the primary that is not normal", first, getOf(2, 1, view), first)
		wantHear(t, "at one that is not normal", changing, getOf(2, 0, view), changing)
	}
}
