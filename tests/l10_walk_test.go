package tests

import (
	"slices"
	"testing"

	"loop.example/g00277/impl"
)

// kinLog is one of a few logs, so that two of them often have a beginning in common.
func kinLog(x *dice, n int64) []impl.Entry {
	log := logUpTo(n)
	if n > 0 && x.upTo(3) == 0 {
		log[x.upTo(n)] = writeEntry(700 + x.upTo(2))
	}
	return log
}

// nearNumber is often one of the few, at times any up to the most.
func nearNumber(x *dice, most int64, few ...int64) int64 {
	if x.upTo(4) == 0 {
		return x.upTo(most + 1)
	}
	return min(most, max(0, few[x.upTo(int64(len(few)))]))
}

// kinDoers tell of views and lengths that are often as good as those of the node.
func kinDoers(x *dice, n impl.Replica) []impl.Doer {
	doers := make([]impl.Doer, n.Size)
	length := int64(len(n.Log))
	share := 1 + x.upTo(4)
	for i := range doers {
		if x.upTo(4) < share {
			many := nearNumber(x, 40, length-1, length, length, length+1, 0, 40)
			last := nearNumber(x, 200, n.Last-1, n.Last, n.Last, n.Last, n.Last+1, n.View)
			doers[i] = impl.Doer{Known: true, Last: last, Log: kinLog(x, many), Commit: x.upTo(many + 1)}
		}
	}
	return doers
}

// kinNode is as anyNode, but its logs and Lasts are often as good as one another.
func kinNode(x *dice, id, size, view int64, normal bool) impl.Replica {
	n := anyNode(x, id, size, view, normal)
	n.Log = kinLog(x, int64(len(n.Log)))
	if !normal {
		n.Doers = kinDoers(x, n)
	}
	return n
}

// kinMail has no fault at the node, and often just the numbers at which another thing comes of it.
func kinMail(x *dice, n impl.Replica, kind, from, view int64) impl.Mail {
	m := impl.Mail{Kind: kind, From: from, To: n.Id, View: view}
	length := int64(len(n.Log))
	switch kind {
	case impl.MailPrepare:
		m.At = nearNumber(x, 40, length-1, length, length, length, length+1, 0)
		m.Commit = nearNumber(x, 40, n.Commit-1, n.Commit, n.Commit+1, length, length+1, length+2)
		if x.upTo(3) > 0 {
			m.Has, m.Entry = true, writeEntry(800+x.upTo(9))
		}
	case impl.MailOk:
		m.At = nearNumber(x, 40, length-1, length, length+1, 0, n.Commit, n.Commit+1)
	case impl.MailDo, impl.MailStart:
		m.Log = kinLog(x, nearNumber(x, 40, length-1, length, length, length+1, length+2, n.Commit))
		m.Commit = nearNumber(x, int64(len(m.Log)), n.Commit-1, n.Commit, n.Commit+1, length, length+1)
		if kind == impl.MailDo {
			m.Last = nearNumber(x, view, n.Last-1, n.Last, n.Last, n.Last+1, view)
		}
	}
	return m
}

// afterBegin is the node as it begins its view, if it may: it needs one that is not normal.
func afterBegin(n impl.Replica) (impl.Replica, []impl.Mail) {
	known := int64(len(knownIn(n)))
	if !isPrimary(n) || known <= n.Size-known {
		return n, nil
	}
	then := begun(n.Id, n.Size, n.View, ownDoer(n, chosenIn(n)).Log, 0)
	for _, id := range knownIn(n) {
		then.Commit = max(then.Commit, ownDoer(n, id).Commit)
	}
	then.Commit = min(then.Commit, int64(len(then.Log)))
	return then, startsOf(then)
}

func afterPrepare(n impl.Replica, m impl.Mail) (impl.Replica, []impl.Mail, int64) {
	length := int64(len(n.Log))
	follows := n.Normal && m.View == n.View && !isPrimary(n)
	if m.View == n.View && n.Normal && isPrimary(n) {
		return n, nil, impl.OK
	}
	if !follows || m.At > length {
		return n, []impl.Mail{getOf(n.Id, m.From, m.View)}, impl.OK
	}
	if m.Has && m.At == length {
		if length == 40 {
			return impl.Replica{}, nil, impl.ErrMany
		}
		n.Log = append(slices.Clone(n.Log), m.Entry)
		length++
	}
	n.Commit = max(n.Commit, min(length, m.Commit))
	return n, []impl.Mail{okOf(n.Id, m.From, n.View, length)}, impl.OK
}

func afterOk(n impl.Replica, m impl.Mail) impl.Replica {
	if m.View == n.View && n.Normal && isPrimary(n) {
		n.Oks = slices.Clone(n.Oks)
		n.Oks[m.From] = max(n.Oks[m.From], min(m.At, int64(len(n.Log))))
		n.Commit = max(n.Commit, agreedIn(n))
	}
	return n
}

func afterChange(n impl.Replica, m impl.Mail) (impl.Replica, []impl.Mail) {
	var sent []impl.Mail
	switch {
	case m.View > n.View:
		n = asking(n, m.View, m.From)
		sent = changesOf(n.Id, n.Size, n.View)
	case n.Normal:
		return n, nil
	default:
		n = copyReplica(n)
		n.Asks[m.From] = true
	}
	if asks := askersIn(n); asks <= n.Size-asks {
		return n, sent
	}
	if !isPrimary(n) {
		return n, append(sent, doOf(n, n.View%n.Size))
	}
	then, starts := afterBegin(n)
	return then, append(sent, starts...)
}

func afterDo(n impl.Replica, m impl.Mail) (impl.Replica, []impl.Mail) {
	if m.View%n.Size != n.Id || n.Normal && m.View == n.View {
		return n, nil
	}
	var sent []impl.Mail
	if m.View > n.View {
		n = asking(n, m.View)
		sent = changesOf(n.Id, n.Size, n.View)
	}
	then, starts := afterBegin(withDoer(n, m.From, impl.Doer{Known: true, Last: m.Last, Log: m.Log, Commit: m.Commit}))
	return then, append(sent, starts...)
}

func afterStart(n impl.Replica, m impl.Mail) (impl.Replica, []impl.Mail) {
	if m.View%n.Size != m.From {
		return n, nil
	}
	commit := max(n.Commit, m.Commit)
	if m.View > n.View || !n.Normal {
		n = impl.Replica{Id: n.Id, Size: n.Size, View: m.View, Normal: true, Last: m.View, Log: m.Log}
	} else if len(m.Log) > len(n.Log) && slices.Equal(n.Log, m.Log[:len(n.Log)]) {
		n.Log = m.Log
	}
	n.Commit = min(commit, int64(len(n.Log)))
	return n, []impl.Mail{okOf(n.Id, m.From, n.View, int64(len(n.Log)))}
}

// afterHear is what the node is then, what it sends, and the code.
func afterHear(n impl.Replica, m impl.Mail) (then impl.Replica, sent []impl.Mail, code int64) {
	then = n
	if m.View < n.View {
		return then, nil, impl.OK
	}
	switch m.Kind {
	case impl.MailPrepare:
		return afterPrepare(n, m)
	case impl.MailOk:
		then = afterOk(n, m)
	case impl.MailChange:
		then, sent = afterChange(n, m)
	case impl.MailDo:
		then, sent = afterDo(n, m)
	case impl.MailStart:
		then, sent = afterStart(n, m)
	case impl.MailGet:
		if n.Normal && m.View == n.View && isPrimary(n) {
			sent = []impl.Mail{startOf(n.Id, m.From, n.View, n.Log, n.Commit)}
		}
	}
	return then, sent, impl.OK
}

// wantNothingLess asks what holds whatever was heard. Commit may fall only where the log that was taken is shorter.
func wantNothingLess(t *testing.T, n impl.Replica, m impl.Mail, got impl.ReplicaResult) {
	t.Helper()
	wantHeard(t, "HearReplica", n, got)
	then := got.Replica
	length := int64(len(then.Log))
	if then.Id != n.Id || then.Size != n.Size || then.View < n.View || then.Last < n.Last {
		t.Fatalf("%v, at %v: became %v", n, m, then)
	}
	if then.Commit > length || then.Commit < min(n.Commit, length) {
		t.Fatalf("%v, at %v: Commit became %d, of %d entries", n, m, then.Commit, length)
	}
	if then.View == n.View && n.Normal && (!then.Normal || !impl.IsBeginning(n.Log, then.Log)) {
		t.Fatalf("%v, at %v: it was normal, and is %v", n, m, then)
	}
	crashed := impl.CrashReplica(then)
	wantReplica(t, "a crash behind it", crashed, afterCrash(then))
	if crashed.Replica.View != then.View || crashed.Replica.Last != then.Last || crashed.Replica.Normal != then.Normal || !slices.Equal(crashed.Replica.Log, then.Log) {
		t.Fatalf("%v, at %v: %v, and behind a crash %v", n, m, then, crashed)
	}
}

// beginsBy tells whether it became the normal primary of a view by what it heard.
func beginsBy(n impl.Replica, then impl.Replica) bool {
	return then.Normal && isPrimary(then) && (!n.Normal || then.View > n.View)
}

// wantBestTaken goes through all that told of themselves, the one that was heard among them, and asks that none has a better log.
func wantBestTaken(t *testing.T, n impl.Replica, m impl.Mail, then impl.Replica) {
	t.Helper()
	told := []impl.Doer{{Known: true, Last: n.Last, Log: n.Log}}
	for id, d := range n.Doers {
		if then.View == n.View && int64(id) != n.Id && (m.Kind != impl.MailDo || int64(id) != m.From) && d.Known {
			told = append(told, d)
		}
	}
	if m.Kind == impl.MailDo {
		told = append(told, impl.Doer{Known: true, Last: m.Last, Log: m.Log})
	}
	if 2*int64(len(told)) <= n.Size {
		t.Fatalf("%v, at %v: begins with %d", n, m, len(told))
	}
	last, longest := int64(0), 0
	for _, d := range told {
		last = max(last, d.Last)
	}
	told = slices.DeleteFunc(told, func(d impl.Doer) bool { return d.Last != last })
	for _, d := range told {
		longest = max(longest, len(d.Log))
	}
	if len(then.Log) != longest || !slices.ContainsFunc(told, func(d impl.Doer) bool { return slices.Equal(d.Log, then.Log) }) {
		t.Fatalf("%v, at %v: begins with %v", n, m, then.Log)
	}
}

// viewsAbout are views below, at and above that of the node, and of these some of which it or the other one is the primary.
func viewsAbout(x *dice, n impl.Replica) []int64 {
	list := []int64{0, x.upTo(201)}
	for far := int64(-1); far <= n.Size; far++ {
		list = append(list, min(200, max(0, n.View+far)))
	}
	slices.Sort(list)
	return slices.Compact(list)
}

// eachHearing has nodes of each Size, Id and View, normal and not, and mails of each kind from each one, itself among them.
func eachHearing(yield func(n impl.Replica, m impl.Mail) bool) {
	x := &dice{state: 10}
	for _, like := range eachNode {
		n := kinNode(x, like.Id, like.Size, like.View, like.Normal)
		for from := range n.Size {
			for _, view := range viewsAbout(x, n) {
				for kind := int64(1); kind <= 6; kind++ {
					if !yield(n, kinMail(x, n, kind, from, view)) {
						return
					}
				}
			}
		}
	}
}

func TestWhateverIsHeard(t *testing.T) {
	begins, codes, sent := map[int64]int{}, map[int64]int{}, map[int64]int{}
	for n, m := range eachHearing {
		got := impl.HearReplica(n, m)
		if m.From == n.Id {
			wantReplicaCode(t, "from itself", got, impl.ErrRange)
			continue
		}
		want, mails, code := afterHear(n, m)
		codes[code]++
		if code != impl.OK {
			wantReplicaCode(t, "HearReplica", got, code)
			continue
		}
		wantReplica(t, "HearReplica", got, want, mails...)
		wantNothingLess(t, n, m, got)
		if beginsBy(n, got.Replica) {
			begins[m.Kind]++
			wantBestTaken(t, n, m, got.Replica)
		}
		for _, m := range got.Send {
			sent[m.Kind]++
		}
	}
	if codes[impl.OK] < 500000 || codes[impl.ErrMany] < 200 || begins[impl.MailChange] < 500 || begins[impl.MailDo] < 3000 || len(begins) != 2 {
		t.Errorf("codes %v, begun by %v", codes, begins)
	}
	for _, kind := range []int64{impl.MailOk, impl.MailChange, impl.MailDo, impl.MailStart, impl.MailGet} {
		if sent[kind] < 5000 || len(sent) != 5 {
			t.Errorf("sent by kind: %v", sent)
		}
	}
}

// All that is sent in one answer stands in this order of kinds, and rises within one.
func TestWhatIsSentInWhichOrder(t *testing.T) {
	x := &dice{state: 110}
	seen := map[string]int{}
	for range 60000 {
		size := 2 + x.upTo(4)
		n := kinNode(x, x.upTo(size), size, x.upTo(201), x.upTo(3) == 0)
		m := kinMail(x, n, impl.MailChange+x.upTo(2), (n.Id+1+x.upTo(size-1))%size, min(200, n.View+x.upTo(3)))
		got := impl.HearReplica(n, m).Send
		rank := func(m impl.Mail) int {
			return slices.Index([]int64{impl.MailChange, impl.MailDo, impl.MailStart}, m.Kind)*10 + int(m.To)
		}
		name := ""
		for i, m := range got {
			if i > 0 && rank(got[i-1]) >= rank(m) {
				t.Fatalf("%v, at %v: sends %v", n, m, got)
			}
			if i == 0 || got[i-1].Kind != m.Kind {
				name += string(rune('0' + m.Kind))
			}
		}
		seen[name]++
	}
	for _, name := range []string{"", "3", "34", "35", "4", "5"} {
		if seen[name] < 100 {
			t.Errorf("kinds in order, how often: %v", seen)
		}
	}
	if len(seen) != 6 {
		t.Errorf("kinds in order, how often: %v", seen)
	}
}

// hearWalk is a few nodes, and mails that come in any order, twice or never.
type hearWalk struct {
	nodes []impl.Replica
	mails []impl.Mail
	begun map[int64]bool
}

// does has a node do something; a crash alone takes from Commit.
func (w *hearWalk) does(t *testing.T, id int64, got impl.ReplicaResult, crash bool) {
	t.Helper()
	if got.Code != impl.OK {
		wantReplicaCode(t, "an act", got, got.Code)
		return
	}
	was, then := w.nodes[id], got.Replica
	wantHeard(t, "an act", was, got)
	if then.View < was.View || then.Last < was.Last || !crash && then.Commit < was.Commit {
		t.Fatalf("%v became %v", was, then)
	}
	if beginsBy(was, then) {
		w.begun[then.View] = true
	}
	w.nodes[id], w.mails = then, append(w.mails, got.Send...)
}

func (w *hearWalk) step(t *testing.T, x *dice) {
	t.Helper()
	id := x.upTo(int64(len(w.nodes)))
	n := w.nodes[id]
	switch k := x.upTo(40); {
	case k == 0:
		w.does(t, id, impl.TimeoutReplica(n), false)
	case k == 1:
		w.does(t, id, impl.CrashReplica(n), true)
	case k < 6:
		w.does(t, id, impl.BeatReplica(n), false)
	case k < 9:
		w.does(t, id, impl.AskReplica(n, entryOf(1+x.upTo(99), 1+x.upTo(999), anyOp(x))), false)
	case len(w.mails) > 0:
		at := int(x.upTo(int64(len(w.mails))))
		m := w.mails[at]
		if x.upTo(5) > 0 {
			w.mails = slices.Delete(w.mails, at, at+1)
		}
		if x.upTo(8) > 0 {
			w.does(t, m.To, impl.HearReplica(w.nodes[m.To], m), false)
		}
	}
	for len(w.mails) > 60 {
		at := int(x.upTo(int64(len(w.mails))))
		w.mails = slices.Delete(w.mails, at, at+1)
	}
}

// agreedStays asks that what was agreed is the beginning of what is, and of the log of the first one of the greatest view.
func (w *hearWalk) agreedStays(t *testing.T, agreed []impl.Entry) []impl.Entry {
	t.Helper()
	view := int64(-1)
	for _, n := range w.nodes {
		known := n.Log[:n.Commit]
		if both := impl.CommonOf(known, agreed); both != int64(min(len(known), len(agreed))) {
			t.Fatalf("%v was agreed, and %v knows of other entries", agreed, n)
		}
		if len(known) > len(agreed) {
			agreed = slices.Clone(known)
		}
		if n.Normal {
			view = max(view, n.View)
		}
	}
	for _, n := range w.nodes {
		if n.Normal && n.View == view && isPrimary(n) && !impl.IsBeginning(agreed, n.Log) {
			t.Fatalf("%v was agreed, and %v is the first", agreed, n)
		}
	}
	return agreed
}

// From new nodes on, whatever is lost, late, doubled or crashes.
func TestHearWalk(t *testing.T) {
	x := &dice{state: 1010}
	begun, agreed := 0, 0
	for round := range int64(200) {
		w := &hearWalk{begun: map[int64]bool{}}
		size := 1 + round%5
		for id := range size {
			w.nodes = append(w.nodes, impl.NewReplica(id, size).Replica)
		}
		var known []impl.Entry
		for range 1200 {
			w.step(t, x)
			known = w.agreedStays(t, known)
		}
		begun += len(w.begun)
		agreed += len(known)
	}
	if begun < 2000 || agreed < 2500 {
		t.Errorf("%d views were begun, %d entries agreed", begun, agreed)
	}
}
