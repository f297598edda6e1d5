package tests

import (
	"math"
	"slices"
	"testing"

	"loop.example/g00277/impl"
)

// mailOf has no fault where from and to are two of one Size, and the view is one.
func mailOf(kind, from, to, view int64) impl.Mail {
	m := impl.Mail{Kind: kind, From: from, To: to, View: view}
	switch kind {
	case 1:
		m.At, m.Has, m.Entry, m.Commit = 7, true, writeEntry(5), 3
	case 2:
		m.At = 9
	case 4:
		m.Last, m.Log, m.Commit = view/2, logUpTo(9), 4
	case 5:
		m.Log, m.Commit = logUpTo(12), 11
	}
	return m
}

// mailBreak makes a fault. One of a lower rank is told ahead of one of a greater.
type mailBreak struct {
	name string
	rank int
	code int64
	do   func(m *impl.Mail)
}

// addressBreaks are those of what mails of all kinds have; they need a node of the Id 2 of 4.
func addressBreaks() []mailBreak {
	var list []mailBreak
	for _, kind := range append(badNumbers(1, 6), -1, 8, 100) {
		list = append(list, mailBreak{"Kind", 1, impl.ErrForm, func(m *impl.Mail) { m.Kind = kind }})
	}
	for _, to := range []int64{math.MinInt64, -1, 0, 1, 3, 4, 1<<32 + 2, math.MaxInt64} {
		list = append(list, mailBreak{"To", 1, impl.ErrForm, func(m *impl.Mail) { m.To = to }})
	}
	for _, from := range append(badNumbers(0, 3), 2, 5, -2) {
		list = append(list, mailBreak{"From", 2, impl.ErrRange, func(m *impl.Mail) { m.From = from }})
	}
	for _, view := range badNumbers(0, 200) {
		list = append(list, mailBreak{"View", 2, impl.ErrRange, func(m *impl.Mail) { m.View = view }})
	}
	return list
}

// hadBreaks are those of what just the kind has.
func hadBreaks(kind int64) []mailBreak {
	var list []mailBreak
	add := func(name string, rank int, code int64, do func(m *impl.Mail)) {
		list = append(list, mailBreak{name, rank, code, do})
	}
	for _, bad := range badNumbers(0, 40) {
		if kind == 1 || kind == 2 {
			add("At", 2, impl.ErrRange, func(m *impl.Mail) { m.At = bad })
		}
		if kind == 1 {
			add("Commit", 4, impl.ErrRange, func(m *impl.Mail) { m.Commit = bad })
		}
		if kind == 4 || kind == 5 {
			add("Commit of 40 entries", 4, impl.ErrRange, func(m *impl.Mail) { m.Log, m.Commit = logUpTo(40), bad })
			add("Commit of no entries", 4, impl.ErrRange, func(m *impl.Mail) { m.Log, m.Commit = nil, max(1, bad) })
			add("Commit of some entries", 4, impl.ErrRange, func(m *impl.Mail) { m.Commit = int64(len(m.Log)) + 1 })
		}
	}
	if kind == 4 {
		for _, far := range []int64{0, 1, 1 << 32, math.MaxInt64 - 500} {
			add("Last below", 2, impl.ErrRange, func(m *impl.Mail) { m.Last = -1 - far })
			add("Last beyond View", 2, impl.ErrRange, func(m *impl.Mail) { m.Last = m.View + 1 + far })
		}
		add("Last at the end", 2, impl.ErrRange, func(m *impl.Mail) { m.Last = math.MinInt64 })
	}
	if kind == 4 || kind == 5 {
		add("too many entries", 3, impl.ErrMany, func(m *impl.Mail) { m.Log = logUpTo(41) })
		add("far too many entries", 3, impl.ErrMany, func(m *impl.Mail) { m.Log = make([]impl.Entry, 1000) })
		add("an entry that is zero", 3, impl.ErrRange, func(m *impl.Mail) { m.Log = logBut(40, 39, impl.Entry{}) })
		add("no kind", 3, impl.ErrForm, func(m *impl.Mail) { m.Log = logBut(5, 0, entryOf(1, 1, opOf(7, 1, 0, 0))) })
	}
	if kind == 1 {
		for _, c := range faultyEntries()[:60] {
			add("an entry: "+c.name, 5, c.code, func(m *impl.Mail) { m.Has, m.Entry = true, c.entry })
		}
		add("an entry that is zero", 5, impl.ErrRange, func(m *impl.Mail) { m.Has, m.Entry = true, impl.Entry{} })
	}
	return list
}

// moreBreaks give to a mail what its kind has not.
func moreBreaks(kind int64) []mailBreak {
	var list []mailBreak
	add := func(name string, has bool, do func(m *impl.Mail)) {
		if !has {
			list = append(list, mailBreak{"more: " + name, 6, impl.ErrForm, do})
		}
	}
	for _, n := range []int64{1, -1, 41, math.MinInt64, math.MaxInt64} {
		add("At", kind == 1 || kind == 2, func(m *impl.Mail) { m.At = n })
		add("Last", kind == 4, func(m *impl.Mail) { m.Last = n })
		add("Commit", kind == 1 || kind == 4 || kind == 5, func(m *impl.Mail) { m.Commit = n })
	}
	for _, log := range [][]impl.Entry{logUpTo(1), logUpTo(40), logUpTo(41), make([]impl.Entry, 1)} {
		add("Log", kind == 4 || kind == 5, func(m *impl.Mail) { m.Log = log })
	}
	for name, change := range entryChanges() {
		add("an Entry without Has: "+name, false, func(m *impl.Mail) {
			m.Has, m.Entry = false, impl.Entry{}
			change(&m.Entry, 1)
		})
	}
	add("an Entry without Has", false, func(m *impl.Mail) { m.Has, m.Entry = false, writeEntry(3) })
	add("Has, and an entry", kind == 1, func(m *impl.Mail) { m.Has, m.Entry = true, writeEntry(3) })
	add("Has, and an entry with a fault", kind == 1, func(m *impl.Mail) { m.Has, m.Entry = true, entryOf(1, 0, impl.Op{}) })
	add("Has, and no entry", kind == 1, func(m *impl.Mail) { m.Has = true })
	return list
}

func mailBreaks(kind int64) []mailBreak {
	return slices.Concat(addressBreaks(), hadBreaks(kind), moreBreaks(kind))
}

func mailNodes() []impl.Replica {
	return []impl.Replica{normalNode(2, 4, 50, 9), normalNode(2, 4, 0, 0), changingNode(2, 4, 200, 7, 40), changingNode(2, 4, 2, 0, 3)}
}

func wantMailFault(t *testing.T, name string, n impl.Replica, m impl.Mail, code int64) {
	t.Helper()
	if got := impl.MailFault(n, m); got != code {
		t.Fatalf("%s: %v at %v: got %d, want %d", name, m, n, got, code)
	}
}

func TestMailKinds(t *testing.T) {
	kinds := []int64{impl.MailPrepare, impl.MailOk, impl.MailChange, impl.MailDo, impl.MailStart, impl.MailGet}
	if !slices.Equal(kinds, []int64{1, 2, 3, 4, 5, 6}) {
		t.Errorf("the kinds are %v", kinds)
	}
}

func TestMailFault(t *testing.T) {
	for _, n := range mailNodes() {
		for kind := int64(1); kind <= 6; kind++ {
			for _, b := range mailBreaks(kind) {
				m := mailOf(kind, 1, 2, 60)
				b.do(&m)
				wantMailFault(t, b.name, n, m, b.code)
			}
		}
	}
}

// Each fault is told ahead of all that stand behind it.
func TestMailFaultGoesInOrder(t *testing.T) {
	pairs := 0
	for kind := int64(1); kind <= 6; kind++ {
		for _, ahead := range mailBreaks(kind) {
			for _, behind := range mailBreaks(kind) {
				if ahead.rank >= behind.rank {
					continue
				}
				m := mailOf(kind, 3, 2, 60)
				behind.do(&m)
				ahead.do(&m)
				pairs++
				wantMailFault(t, ahead.name+" ahead of "+behind.name, mailNodes()[0], m, ahead.code)
			}
		}
	}
	if pairs < 5000 {
		t.Errorf("%d pairs", pairs)
	}
}

// A node that has a fault tells that of whatever mail, also of one without a fault and of one that is zero.
func TestMailFaultTellsTheReplicaFirst(t *testing.T) {
	for _, c := range faultyReplicas() {
		wantMailFault(t, c.name, c.replica, impl.Mail{}, c.code)
		wantMailFault(t, c.name, c.replica, impl.Mail{Kind: 7, From: -1, To: -1, View: -1, At: -1, Log: logUpTo(41), Commit: -1}, c.code)
		for kind := int64(1); kind <= 6; kind++ {
			wantMailFault(t, c.name, c.replica, mailOf(kind, c.replica.Id+1, c.replica.Id, 3), c.code)
			wantMailFault(t, c.name, c.replica, mailOf(kind, c.replica.Id, c.replica.Id, 201), c.code)
		}
	}
}

func soundMails(from, to, view int64) []impl.Mail {
	var list []impl.Mail
	add := func(m impl.Mail) {
		m.From, m.To, m.View = from, to, view
		list = append(list, m)
	}
	for _, n := range []int64{0, 1, 39, 40} {
		add(impl.Mail{Kind: 2, At: n})
		for _, commit := range []int64{0, 1, 39, 40} {
			add(impl.Mail{Kind: 1, At: n, Commit: commit})
			add(impl.Mail{Kind: 1, At: n, Commit: commit, Has: true, Entry: writeEntry(n)})
			add(impl.Mail{Kind: 1, At: n, Commit: commit, Has: true, Entry: entryOf(99, 999, opOf(impl.OpDelete, 99, 0, 0))})
			for _, last := range []int64{0, view / 2, view} {
				add(impl.Mail{Kind: 4, Last: last, Log: logUpTo(n), Commit: min(n, commit)})
			}
			add(impl.Mail{Kind: 5, Log: logUpTo(n), Commit: min(n, commit)})
		}
	}
	add(impl.Mail{Kind: 3})
	add(impl.Mail{Kind: 6})
	add(impl.Mail{Kind: 3, Log: []impl.Entry{}})
	return list
}

// Whatever View a node is in and whether it is normal, a mail is as good.
func TestMailsWithoutAFault(t *testing.T) {
	for size := int64(1); size <= 5; size++ {
		for id := range size {
			for from := range size {
				want := int64(impl.OK)
				if from == id {
					want = impl.ErrRange
				}
				for _, view := range []int64{0, 1, 100, 199, 200} {
					for _, m := range soundMails(from, id, view) {
						wantMailFault(t, "new", impl.NewReplica(id, size).Replica, m, want)
						wantMailFault(t, "normal", normalNode(id, size, 99, 3), m, want)
						wantMailFault(t, "changing", changingNode(id, size, 200, 0, 40), m, want)
					}
				}
			}
		}
	}
}

func TestMailFaultByHand(t *testing.T) {
	n := normalNode(1, 3, 4, 2)
	at := func(kind, from, to, view int64, change func(m *impl.Mail)) impl.Mail {
		m := mailOf(kind, from, to, view)
		change(&m)
		return m
	}
	none := func(m *impl.Mail) {}
	for _, c := range []struct {
		name string
		mail impl.Mail
		code int64
	}{
		{"nothing", impl.Mail{}, impl.ErrForm},
		{"kind 0", at(0, 0, 1, 4, none), impl.ErrForm},
		{"kind 7", at(7, 0, 1, 4, none), impl.ErrForm},
		{"to the first", at(6, 2, 0, 4, none), impl.ErrForm},
		{"from itself", at(6, 1, 1, 4, none), impl.ErrRange},
		{"from nobody", at(6, 3, 1, 4, none), impl.ErrRange},
		{"from nobody below", at(6, -1, 1, 4, none), impl.ErrRange},
		{"view 200", at(6, 0, 1, 200, none), impl.OK},
		{"view 201", at(6, 0, 1, 201, none), impl.ErrRange},
		{"view -1", at(6, 0, 1, -1, none), impl.ErrRange},
		{"At 40", at(1, 0, 1, 4, func(m *impl.Mail) { m.At = 40 }), impl.OK},
		{"At 41", at(1, 0, 1, 4, func(m *impl.Mail) { m.At = 41 }), impl.ErrRange},
		{"At 41 of a MailOk", at(2, 0, 1, 4, func(m *impl.Mail) { m.At = 41 }), impl.ErrRange},
		{"At 1 of a MailStart", at(5, 0, 1, 4, func(m *impl.Mail) { m.At = 1 }), impl.ErrForm},
		{"Commit ahead of the entry", at(1, 0, 1, 4, func(m *impl.Mail) { m.Commit, m.Entry = 41, entryOf(1, 1, impl.Op{}) }), impl.ErrRange},
		{"the log ahead of Commit", at(5, 0, 1, 4, func(m *impl.Mail) { m.Commit, m.Log = 42, logUpTo(41) }), impl.ErrMany},
		{"Last ahead of the log", at(4, 0, 1, 4, func(m *impl.Mail) { m.Last, m.Log = 5, logUpTo(41) }), impl.ErrRange},
		{"Commit ahead of an At", at(4, 0, 1, 4, func(m *impl.Mail) { m.Commit, m.At = 10, 1 }), impl.ErrRange},
		{"a MailOk with a Commit", at(2, 0, 1, 4, func(m *impl.Mail) { m.Commit = 1 }), impl.ErrForm},
		{"a MailStart with a Last", at(5, 0, 1, 4, func(m *impl.Mail) { m.Last = 4 }), impl.ErrForm},
		{"a MailDo that Has an entry", at(4, 0, 1, 4, func(m *impl.Mail) { m.Has, m.Entry = true, writeEntry(0) }), impl.ErrForm},
		{"a MailPrepare without Has", at(1, 0, 1, 4, func(m *impl.Mail) { m.Has = false }), impl.ErrForm},
		{"a MailPrepare without an entry", at(1, 0, 1, 4, func(m *impl.Mail) { m.Has, m.Entry = false, impl.Entry{} }), impl.OK},
	} {
		wantMailFault(t, c.name, n, c.mail, c.code)
	}
}
