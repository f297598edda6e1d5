package tests

import (
	"slices"
	"testing"

	"loop.example/g00277/impl"
)

// changesOf are the MailChanges of a node to all others, rising.
func changesOf(id, size, view int64) []impl.Mail {
	return toOthers(impl.Replica{Id: id, Size: size}, func(to int64) impl.Mail { return changeOf(id, to, view) })
}

// startsOf are the MailStarts of the one that begins a view, rising.
func startsOf(n impl.Replica) []impl.Mail {
	return toOthers(n, func(to int64) impl.Mail { return startOf(n.Id, to, n.View, n.Log, n.Commit) })
}

// asking is a node that is not normal in the view, as it asks for it together with others.
func asking(n impl.Replica, view int64, others ...int64) impl.Replica {
	then := impl.Replica{Id: n.Id, Size: n.Size, View: view, Last: n.Last, Log: n.Log, Commit: n.Commit}
	then.Asks, then.Doers = make([]bool, n.Size), make([]impl.Doer, n.Size)
	for _, id := range append(others, n.Id) {
		then.Asks[id] = true
	}
	return then
}

func doMail(from, to, view, last int64, log []impl.Entry, commit int64) impl.Mail {
	return impl.Mail{Kind: impl.MailDo, From: from, To: to, View: view, Last: last, Log: log, Commit: commit}
}

// withDoer knows what one told.
func withDoer(n impl.Replica, id int64, d impl.Doer) impl.Replica {
	n = copyReplica(n)
	n.Doers[id] = d
	return n
}

func withAsks(n impl.Replica, asks ...bool) impl.Replica {
	n.Asks = asks
	return n
}

// begun is the primary of the view as it begins it.
func begun(id, size, view int64, log []impl.Entry, commit int64) impl.Replica {
	return impl.Replica{Id: id, Size: size, View: view, Normal: true, Last: view, Log: log, Commit: commit, Oks: make([]int64, size)}
}

func TestChangeOfAViewAbove(t *testing.T) {
	lead := withCommit(leadingNode(3, 5, 0, 2, 1), 1)
	follow := withCommit(normalNode(2, 3, 3, 5), 2)
	want := asking(lead, 4, 1)
	wantHear(t, "the primary of before", lead, changeOf(1, 0, 4), want, append(changesOf(0, 3, 4), doOf(want, 1))...)
	want = asking(follow, 4, 0)
	wantHear(t, "one that follows", follow, changeOf(0, 2, 4), want, append(changesOf(2, 3, 4), doOf(want, 1))...)
	want = asking(follow, 200, 0)
	wantHear(t, "to the last view, of which it is the primary", follow, changeOf(0, 2, 200), want, changesOf(2, 3, 200)...)
	want = asking(lead, 6, 2)
	wantHear(t, "the primary of both", lead, changeOf(2, 0, 6), want, changesOf(0, 3, 6)...)

	stuck := withCommit(askedNode(3, 7, 2, 5, true, true, true, true, true), 4)
	for id := range int64(5) {
		stuck.Doers[id] = doerOf(6, 9, 9)
	}
	want = asking(stuck, 8, 0)
	wantHear(t, "two of five are too few, whoever asked for the view of before", stuck, changeOf(0, 3, 8), want, changesOf(3, 5, 8)...)
	four := normalNode(1, 4, 0, 3)
	wantHear(t, "two of four are too few", four, changeOf(3, 1, 2), asking(four, 2, 3), changesOf(1, 4, 2)...)
	two := normalNode(0, 2, 0, 3)
	want = asking(two, 1, 1)
	wantHear(t, "both of two", two, changeOf(1, 0, 1), want, changeOf(0, 1, 1), doOf(want, 1))
	wantHear(t, "both of two, at the primary", two, changeOf(1, 0, 2), asking(two, 2, 1), changeOf(0, 1, 2))
}

func TestChangeOfItsOwnView(t *testing.T) {
	n := withCommit(changingNode(2, 3, 4, 3, 5), 2)
	want := asking(n, 4, 0)
	wantHear(t, "just enough", n, changeOf(0, 2, 4), want, doOf(want, 1))
	wantHear(t, "of one that asks already", want, changeOf(0, 2, 4), want, doOf(want, 1))
	all := asking(n, 4, 0, 1)
	wantHear(t, "more than enough", want, changeOf(1, 2, 4), all, doOf(want, 1))

	five := askedNode(0, 7, 3, 5, true, false, false, false, false)
	want = withAsks(five, true, false, false, true, false)
	wantHear(t, "too few", five, changeOf(3, 0, 7), want)
	wantHear(t, "too few, of one that asks already", want, changeOf(3, 0, 7), want)
	then := withAsks(five, true, true, false, true, false)
	wantHear(t, "just enough of five", want, changeOf(1, 0, 7), then, doOf(then, 2))
	four := askedNode(0, 7, 3, 5, true, false, false, false)
	want = withAsks(four, true, false, false, true)
	wantHear(t, "half of four is too few", four, changeOf(3, 0, 7), want)
	then = withAsks(four, true, false, true, true)
	wantHear(t, "just enough of four", want, changeOf(2, 0, 7), then, doOf(then, 3))

	silent := askedNode(0, 7, 3, 5, false, false, false)
	wantHear(t, "it does not ask itself", silent, changeOf(2, 0, 7), withAsks(silent, false, false, true))
	then = withAsks(silent, false, true, true)
	wantHear(t, "it does not ask itself, and enough do", withAsks(silent, false, false, true), changeOf(1, 0, 7), then, doOf(then, 1))
	known := withDoer(silent, 1, doerOf(6, 9, 9))
	wantHear(t, "what others told stays", known, changeOf(1, 0, 7), withAsks(known, false, true, false))

	for _, normal := range []impl.Replica{leadingNode(4, 5, 1, 2, 3), withCommit(normalNode(1, 3, 3, 5), 1), leadingNode(7, 0, 0, 0)} {
		wantHear(t, "normal in it", normal, changeOf((normal.Id+1)%normal.Size, normal.Id, normal.View), normal)
	}
}

func TestChangeAtThePrimaryOfTheView(t *testing.T) {
	n := withCommit(changingNode(1, 3, 4, 2, 5), 2)
	wantHear(t, "enough ask, nobody told", n, changeOf(0, 1, 4), asking(n, 4, 0))
	own := withDoer(n, 1, doerOf(3, 9, 9))
	wantHear(t, "what stands at its own place counts for nothing", own, changeOf(0, 1, 4), withAsks(own, true, true, false))
	known := withDoer(n, 2, impl.Doer{Known: true, Last: 3, Log: otherLog(4), Commit: 3})
	want := begun(1, 3, 4, otherLog(4), 3)
	wantHear(t, "enough ask, and enough told", known, changeOf(0, 1, 4), want, startsOf(want)...)
	wantHear(t, "of the one that told", known, changeOf(2, 1, 4), want, startsOf(want)...)

	five := changingNode(0, 5, 5, 4, 6)
	five.Doers[1], five.Doers[2] = doerOf(4, 6, 6), doerOf(4, 7, 1)
	want = withAsks(five, true, false, false, false, true)
	wantHear(t, "enough told, and too few ask", five, changeOf(4, 0, 5), want)
	then := begun(0, 5, 5, logUpTo(7), 6)
	wantHear(t, "enough told, and just enough ask", want, changeOf(1, 0, 5), then, startsOf(then)...)
	few := withDoer(want, 2, impl.Doer{})
	wantHear(t, "enough ask, and one too few told", few, changeOf(1, 0, 5), withAsks(few, true, true, false, false, true))
	other := withAsks(want, true, true, false, false, true)
	other.Id, other.Asks[0] = 3, false
	wantHear(t, "enough told one that is not the primary", other, changeOf(0, 3, 5), withAsks(other, true, true, false, false, true), doOf(other, 0))
	two := knowingNode(0, 2, 0, 0, impl.Doer{}, impl.Doer{Known: true})
	then = begun(0, 2, 2, nil, 0)
	wantHear(t, "both of two", two, changeOf(1, 0, 2), then, startsOf(then)...)
}

func TestDoAtAnotherOne(t *testing.T) {
	for _, n := range []impl.Replica{leadingNode(3, 5, 0, 2, 1), withCommit(normalNode(0, 3, 2, 5), 1), changingNode(0, 3, 2, 1, 5), askedNode(0, 3, 1, 5, true, true, true), knowingNode(0, 3, 1, 5, impl.Doer{}, doerOf(1, 1, 1), doerOf(2, 2, 2))} {
		for _, view := range []int64{4, 5, 7, 200} {
			wantHear(t, "not the primary of the mail's View", n, doMail(1, 0, view, 2, logUpTo(9), 9), n)
		}
	}
	lead := withCommit(leadingNode(3, 5, 0, 2, 1), 1)
	wantHear(t, "normal in it", lead, doMail(1, 0, 3, 3, logUpTo(9), 9), lead)
	wantHear(t, "normal in it, with all Oks", leadingNode(3, 5, 5, 5, 5), doMail(2, 0, 3, 0, nil, 0), leadingNode(3, 5, 5, 5, 5))
}

func TestDoOfAViewAbove(t *testing.T) {
	for _, n := range []impl.Replica{withCommit(leadingNode(3, 5, 0, 2, 1), 1), withCommit(normalNode(0, 3, 2, 5), 1), withCommit(knowingNode(0, 4, 1, 5, doerOf(9, 9, 9), doerOf(9, 9, 9), doerOf(9, 9, 9)), 1)} {
		want := begun(0, 3, 6, otherLog(9), 4)
		wantHear(t, "just enough of three", n, doMail(2, 0, 6, 5, otherLog(9), 4), want, append(changesOf(0, 3, 6), startsOf(want)...)...)
		want = begun(0, 3, 6, n.Log, 1)
		wantHear(t, "an elder log", n, doMail(2, 0, 6, 0, otherLog(9), 0), want, append(changesOf(0, 3, 6), startsOf(want)...)...)
	}
	five := withCommit(normalNode(4, 5, 3, 5), 1)
	want := withDoer(asking(five, 9), 2, doerOf(8, 6, 6))
	wantHear(t, "two of five are too few", five, doMail(2, 4, 9, 8, logUpTo(6), 6), want, changesOf(4, 5, 9)...)
	four := normalNode(0, 4, 3, 5)
	want = withDoer(asking(four, 200), 1, impl.Doer{Known: true})
	wantHear(t, "two of four are too few", four, doMail(1, 0, 200, 0, nil, 0), want, changesOf(0, 4, 200)...)
	two := normalNode(1, 2, 0, 2)
	want = begun(1, 2, 1, logUpTo(3), 3)
	wantHear(t, "both of two", two, doMail(0, 1, 1, 0, logUpTo(3), 3), want, changeOf(1, 0, 1), startOf(1, 0, 1, logUpTo(3), 3))
}

func TestDoOfItsOwnView(t *testing.T) {
	n := withCommit(askedNode(1, 6, 2, 5, true, true, true, false, false), 3)
	one := withDoer(n, 3, doerOf(4, 2, 1))
	wantHear(t, "one too few", n, doMail(3, 1, 6, 4, logUpTo(2), 1), one)
	wantHear(t, "of one that is Known already", one, doMail(3, 1, 6, 5, otherLog(7), 0), withDoer(n, 3, impl.Doer{Known: true, Last: 5, Log: otherLog(7)}))
	wantHear(t, "of one that is Known already, with nothing", one, doMail(3, 1, 6, 0, nil, 0), withDoer(n, 3, impl.Doer{Known: true}))
	own := withDoer(one, 1, doerOf(6, 40, 40))
	want := begun(1, 5, 6, logUpTo(2), 2)
	wantHear(t, "just enough, with a Commit beyond the log", one, doMail(0, 1, 6, 3, otherLog(9), 8), want, startsOf(want)...)
	wantHear(t, "what stands at its own place counts for nothing", own, doMail(0, 1, 6, 3, otherLog(9), 8), want, startsOf(want)...)
	silent := withAsks(one, false, false, false, false, false)
	wantHear(t, "nobody asks", silent, doMail(0, 1, 6, 3, otherLog(9), 8), want, startsOf(want)...)
	all := withDoer(withDoer(own, 2, doerOf(1, 1, 1)), 4, doerOf(4, 1, 1))
	wantHear(t, "more than enough", all, doMail(0, 1, 6, 3, otherLog(9), 8), want, startsOf(want)...)
	want = begun(1, 5, 6, otherLog(7), 1)
	wantHear(t, "Known already, and just enough", withDoer(withCommit(one, 0), 0, doerOf(2, 1, 1)), doMail(3, 1, 6, 5, otherLog(7), 0), want, startsOf(want)...)
}

// The log and Commit of the one that begins: itself is the Id 1 of 5, of the Last view 2, with 5 entries of which 2 are agreed.
func TestWhoBeginsTakesTheBestLog(t *testing.T) {
	for _, c := range []struct {
		name   string
		known  impl.Doer
		heard  impl.Doer
		log    []impl.Entry
		commit int64
	}{
		{"its own, of the greatest view", doerOf(1, 9, 3), impl.Doer{Log: otherLog(9), Commit: 4}, logUpTo(5), 4},
		{"its own, and all Commits beyond it", doerOf(1, 9, 9), impl.Doer{Log: otherLog(9), Commit: 8}, logUpTo(5), 5},
		{"its own Commit is the greatest", doerOf(1, 1, 1), impl.Doer{Log: otherLog(1), Commit: 0}, logUpTo(5), 2},
		{"its own, as it is the longest", doerOf(2, 4, 4), impl.Doer{Last: 2, Log: otherLog(3), Commit: 3}, logUpTo(5), 4},
		{"of the other, of a greater view", doerOf(3, 1, 1), impl.Doer{Last: 2, Log: otherLog(9)}, logUpTo(1), 1},
		{"of the other, that has nothing", doerOf(3, 0, 0), impl.Doer{Last: 2, Log: otherLog(9), Commit: 9}, nil, 0},
		{"as heard, of a greater view", doerOf(3, 9, 1), impl.Doer{Last: 4, Log: otherLog(3)}, otherLog(3), 2},
		{"as heard, of the last view", doerOf(3, 9, 9), impl.Doer{Last: 6, Log: otherLog(40), Commit: 40}, otherLog(40), 40},
		{"as heard, as it is longer", doerOf(3, 9, 1), impl.Doer{Last: 3, Log: otherLog(10), Commit: 7}, otherLog(10), 7},
		{"of the first, as all are as good", impl.Doer{Known: true, Last: 2, Log: otherLog(5), Commit: 5}, impl.Doer{Last: 2, Log: logBut(5, 2, newEntry())}, otherLog(5), 5},
		{"of itself ahead of the one heard", doerOf(1, 5, 5), impl.Doer{Last: 2, Log: otherLog(5), Commit: 1}, logUpTo(5), 5},
		{"of the first of two that are better", impl.Doer{Known: true, Last: 5, Log: otherLog(6)}, impl.Doer{Last: 5, Log: logUpTo(6), Commit: 6}, otherLog(6), 6},
	} {
		n := withDoer(withCommit(changingNode(1, 5, 6, 2, 5), 2), 0, c.known)
		want := begun(1, 5, 6, c.log, c.commit)
		wantHear(t, c.name, n, doMail(4, 1, 6, c.heard.Last, c.heard.Log, c.heard.Commit), want, startsOf(want)...)
		heard := c.heard
		heard.Known = true
		n = withAsks(withDoer(n, 4, heard), true, true, false, false, false)
		wantHear(t, c.name+", by a MailChange", n, changeOf(3, 1, 6), want, startsOf(want)...)
	}
}

func TestStartFromAnotherOne(t *testing.T) {
	for _, n := range []impl.Replica{leadingNode(3, 5, 0, 2, 1), withCommit(normalNode(0, 3, 2, 5), 1), changingNode(0, 3, 2, 1, 5), changingNode(0, 3, 3, 1, 5)} {
		for _, view := range []int64{3, 4, 5, 6, 199, 200} {
			for from := int64(1); from <= 2; from++ {
				if from != view%3 {
					wantHear(t, "from one that is not the primary", n, startOf(from, 0, view, logUpTo(9), 9), n)
				}
			}
		}
	}
}

func TestStartOfAView(t *testing.T) {
	above := []impl.Replica{leadingNode(3, 5, 0, 2, 1), normalNode(0, 3, 2, 5), askedNode(0, 6, 1, 5, true, true, true), changingNode(0, 3, 0, 0, 5), askedNode(0, 7, 7, 5, true, false, true), knowingNode(0, 7, 0, 5, doerOf(7, 40, 40), doerOf(7, 40, 40), doerOf(7, 40, 40))}
	for _, n := range above {
		for _, c := range []struct {
			name   string
			before int64
			log    []impl.Entry
			commit int64
			want   int64
		}{
			{"as it was", 2, logUpTo(5), 2, 2},
			{"a Commit below", 2, logUpTo(5), 1, 2},
			{"a Commit above", 2, logUpTo(5), 5, 5},
			{"a shorter log", 2, logUpTo(3), 3, 3},
			{"a log shorter than Commit", 4, logUpTo(3), 1, 3},
			{"a log as long as Commit", 3, logUpTo(3), 0, 3},
			{"no log", 5, nil, 0, 0},
			{"a longer log", 2, logUpTo(9), 8, 8},
			{"another log", 2, otherLog(5), 0, 2},
			{"a longer log, another one", 0, otherLog(40), 40, 40},
		} {
			n = withCommit(n, c.before)
			want := withCommit(normalNode(0, 3, 7, 0), c.want)
			want.Log = c.log
			wantHear(t, c.name, n, startOf(1, 0, 7, c.log, c.commit), want, okOf(0, 1, 7, int64(len(c.log))))
		}
	}
	two := normalNode(1, 2, 199, 3)
	wantHear(t, "one of two", two, startOf(0, 1, 200, nil, 0), normalNode(1, 2, 200, 0), okOf(1, 0, 200, 0))
}

func TestStartAtOneThatIsNormalInTheView(t *testing.T) {
	n := withCommit(normalNode(2, 4, 7, 5), 2)
	for _, c := range []struct {
		name   string
		log    []impl.Entry
		commit int64
		want   []impl.Entry
		then   int64
	}{
		{"shorter, a Commit below", logUpTo(4), 1, logUpTo(5), 2},
		{"shorter, a Commit above", logUpTo(4), 4, logUpTo(5), 4},
		{"shorter, another one", otherLog(4), 3, logUpTo(5), 3},
		{"nothing", nil, 0, logUpTo(5), 2},
		{"the same, a Commit below", logUpTo(5), 0, logUpTo(5), 2},
		{"the same, the same Commit", logUpTo(5), 2, logUpTo(5), 2},
		{"the same, all of it", logUpTo(5), 5, logUpTo(5), 5},
		{"as long, another one", otherLog(5), 4, logUpTo(5), 4},
		{"longer by one, a Commit below", logUpTo(6), 1, logUpTo(6), 2},
		{"longer by one, all of it", logUpTo(6), 6, logUpTo(6), 6},
		{"the longest", logUpTo(40), 40, logUpTo(40), 40},
		{"longer, another first entry", logBut(9, 0, newEntry()), 1, logUpTo(5), 2},
		{"longer, another entry at the end of its own", logBut(9, 4, newEntry()), 3, logUpTo(5), 3},
		{"longer, another one, a Commit beyond its own entries", logBut(9, 4, newEntry()), 9, logUpTo(5), 5},
		{"longer, another entry behind its own", logBut(9, 5, newEntry()), 0, logBut(9, 5, newEntry()), 2},
	} {
		want := withCommit(n, c.then)
		want.Log = c.want
		wantHear(t, c.name, n, startOf(3, 2, 7, c.log, c.commit), want, okOf(2, 3, 7, int64(len(c.want))))
	}
	empty := normalNode(1, 2, 0, 0)
	want := withCommit(normalNode(1, 2, 0, 3), 3)
	wantHear(t, "of no entries", empty, startOf(0, 1, 0, logUpTo(3), 3), want, okOf(1, 0, 0, 3))
}

// Three nodes: what the first one is asked is agreed; it is silent then, and the second begins the next view with it.
func TestTheNextViewByHand(t *testing.T) {
	x := writeEntry(5)
	first, second, third := impl.NewReplica(0, 3).Replica, impl.NewReplica(1, 3).Replica, impl.NewReplica(2, 3).Replica
	asked := impl.AskReplica(first, x)
	has := impl.HearReplica(third, asked.Send[1])
	agreed := impl.HearReplica(asked.Replica, has.Send[0])
	if agreed.Replica.Commit != 1 {
		t.Fatalf("one MailOk is enough: %v", agreed)
	}
	late := impl.TimeoutReplica(second)
	told := impl.HearReplica(has.Replica, late.Send[1])
	if kinds := kindsOf(told.Send); !slices.Equal(kinds, []int64{3, 3, 4}) {
		t.Fatalf("the third sends the kinds %v", kinds)
	}
	begins := impl.HearReplica(late.Replica, told.Send[2])
	if !begins.Replica.Normal || !slices.Equal(begins.Replica.Log, []impl.Entry{x}) || !slices.Equal(kindsOf(begins.Send), []int64{5, 5}) {
		t.Fatalf("the second: %v", begins)
	}
	back := impl.HearReplica(agreed.Replica, begins.Send[0])
	if back.Replica.View != 1 || back.Replica.Commit != 1 || len(back.Replica.Oks) != 0 {
		t.Fatalf("the first: %v", back)
	}
	if knows := impl.HearReplica(begins.Replica, back.Send[0]); knows.Replica.Commit != 1 {
		t.Fatalf("the second knows that it is agreed: %v", knows)
	}
}

func kindsOf(mails []impl.Mail) []int64 {
	var kinds []int64
	for _, m := range mails {
		kinds = append(kinds, m.Kind)
	}
	return kinds
}
