package tests

import (
	"slices"
	"testing"

	"loop.example/g00277/impl"
)

// withoutMail has one mail less.
func withoutMail(c impl.Cluster, at int64) impl.Cluster {
	c = copyCluster(c)
	c.Mails = slices.Concat(c.Mails[:at], c.Mails[at+1:])
	return c
}

// withNode has another node at the place of its Id.
func withNode(c impl.Cluster, n impl.Replica) impl.Cluster {
	c = copyCluster(c)
	c.Nodes[n.Id] = copyReplica(n)
	return c
}

func withSealed(c impl.Cluster, sealed []impl.Entry) impl.Cluster {
	c = copyCluster(c)
	c.Sealed = slices.Clone(sealed)
	return c
}

// allCome delivers the first mail as long as there is one.
func allCome(t *testing.T, c impl.Cluster) impl.Cluster {
	t.Helper()
	for range 1000 {
		if len(c.Mails) == 0 {
			return c
		}
		got := impl.DeliverMail(c, 0, false)
		if got.Code != impl.OK {
			t.Fatalf("%v: the code %d", c, got.Code)
		}
		c = got.Cluster
	}
	t.Fatalf("there are mails still: %v", c)
	return c
}

func TestThreeNodesAgree(t *testing.T) {
	x := writeEntry(7)
	c := normalCluster(3, 0, 0)
	c.Nodes[0].Log = []impl.Entry{x}
	c.Mails = []impl.Mail{prepareOf(c.Nodes[0], 1, 0, 0), prepareOf(c.Nodes[0], 2, 0, 0)}
	got := impl.AskAt(impl.NewCluster(3).Cluster, 0, x)
	wantCluster(t, "asked", got, c)

	c = withoutMail(c, 0)
	c.Nodes[1].Log = []impl.Entry{x}
	c.Mails = append(c.Mails, okOf(1, 0, 0, 1))
	got = impl.DeliverMail(got.Cluster, 0, false)
	wantCluster(t, "the second has it", got, c)

	c = withoutMail(c, 1)
	c.Nodes[0].Oks[1], c.Nodes[0].Commit, c.Sealed = 1, 1, []impl.Entry{x}
	got = impl.DeliverMail(got.Cluster, 1, false)
	wantCluster(t, "it is agreed at once it has one MailOk", got, c)

	c = withoutMail(c, 0)
	c.Nodes[2].Log = []impl.Entry{x}
	c.Mails = append(c.Mails, okOf(2, 0, 0, 1))
	got = impl.DeliverMail(got.Cluster, 0, false)
	wantCluster(t, "the third has it", got, c)
	c = withoutMail(c, 0)
	c.Nodes[0].Oks[2] = 1
	wantCluster(t, "all have it", impl.DeliverMail(got.Cluster, 0, false), c)
}

// allComeBut loses what is to the node or from it.
func allComeBut(t *testing.T, c impl.Cluster, silent int64) impl.Cluster {
	t.Helper()
	for len(c.Mails) > 0 {
		if m := c.Mails[0]; m.From == silent || m.To == silent {
			c = impl.LoseMail(c, 0).Cluster
		} else {
			c = impl.DeliverMail(c, 0, false).Cluster
		}
	}
	return c
}

func TestTheNextOneTakesOver(t *testing.T) {
	one, two, three := writeEntry(1), writeEntry(2), writeEntry(3)
	c := allCome(t, impl.AskAt(impl.NewCluster(3).Cluster, 0, one).Cluster)
	c = allComeBut(t, impl.AskAt(c, 0, two).Cluster, 0)
	c = allComeBut(t, impl.TimeoutAt(c, 1).Cluster, 0)
	for id, n := range c.Nodes[1:] {
		if n.View != 1 || !n.Normal || !slices.Equal(n.Log, []impl.Entry{one}) {
			t.Errorf("the node %d is %v", id+1, n)
		}
	}
	if c.Nodes[0].View != 0 || !slices.Equal(c.Nodes[0].Log, []impl.Entry{one, two}) || !slices.Equal(c.Sealed, []impl.Entry{one}) {
		t.Errorf("the first one was silent: %v", c)
	}
	c = allCome(t, impl.AskAt(c, 1, three).Cluster)
	if !slices.Equal(c.Sealed, []impl.Entry{one, three}) || c.Nodes[0].View != 1 || !slices.Equal(c.Nodes[0].Log, []impl.Entry{one, three}) {
		t.Errorf("behind another entry: %v", c)
	}
}

// Of three mails each is delivered; what is sent stands behind those that are left.
func TestDeliverMailOfEachPlace(t *testing.T) {
	c := normalCluster(3, 3, 2)
	c.Mails = []impl.Mail{entryMail(0, 1, 3, 2, 0), bareMail(0, 2, 3, 2, 1), okOf(1, 0, 3, 1)}

	first := withNode(c, withNew(c.Nodes[1]))
	wantCluster(t, "the first, kept", impl.DeliverMail(c, 0, true), clusterWith(first, okOf(1, 0, 3, 3)))
	wantCluster(t, "the first", impl.DeliverMail(c, 0, false), clusterWith(withoutMail(first, 0), okOf(1, 0, 3, 3)))

	next := withSealed(withNode(c, withCommit(c.Nodes[2], 1)), logUpTo(1))
	wantCluster(t, "the next, kept", impl.DeliverMail(c, 1, true), clusterWith(next, okOf(2, 0, 3, 2)))
	wantCluster(t, "the next", impl.DeliverMail(c, 1, false), clusterWith(withoutMail(next, 1), okOf(2, 0, 3, 2)))

	last := withSealed(withNode(c, withCommit(leadingNode(3, 2, 0, 1, 0), 1)), logUpTo(1))
	wantCluster(t, "the last, kept", impl.DeliverMail(c, 2, true), last)
	wantCluster(t, "the last", impl.DeliverMail(c, 2, false), withoutMail(last, 2))
}

// A mail that comes twice does what it did once, and is answered again.
func TestDeliverMailTwice(t *testing.T) {
	c := normalCluster(3, 3, 2)
	c.Mails = []impl.Mail{entryMail(0, 1, 3, 2, 0)}
	once := impl.DeliverMail(c, 0, true).Cluster
	want := clusterWith(withNode(c, withNew(c.Nodes[1])), okOf(1, 0, 3, 3), okOf(1, 0, 3, 3))
	wantCluster(t, "kept twice", impl.DeliverMail(once, 0, true), want)
	wantCluster(t, "kept once", impl.DeliverMail(once, 0, false), withoutMail(want, 0))
}

// Two mails that are alike: just the one at the place is gone.
func TestMailsThatAreAlike(t *testing.T) {
	c := normalCluster(3, 3, 2)
	c.Mails = []impl.Mail{getOf(1, 0, 9), okOf(1, 0, 3, 0), getOf(1, 0, 9), okOf(2, 0, 3, 0), getOf(1, 0, 9)}
	for at := range int64(5) {
		wantCluster(t, "lost", impl.LoseMail(c, at), withoutMail(c, at))
		wantCluster(t, "delivered", impl.DeliverMail(c, at, false), withoutMail(c, at))
		wantCluster(t, "kept", impl.DeliverMail(c, at, true), c)
	}
}

// A log of 40 has no room for what is heard: the mail is gone, kept or not, and all else is as it was, nothing being sealed.
func TestDeliverMailThatCannotBeHeard(t *testing.T) {
	for _, many := range []int64{1, 2, 5, 119, 120} {
		c := clusterWith(normalCluster(3, 3, 40), manyMails(many)...)
		c.Sealed = logUpTo(5)
		c.Nodes[1].Commit = 20
		for _, at := range []int64{0, many / 2, many - 1} {
			c := copyCluster(c)
			c.Mails[at] = entryMail(0, 1, 3, 40, 33)
			for _, keep := range []bool{false, true} {
				wantReplicaCode(t, "it cannot be heard", impl.HearReplica(c.Nodes[1], c.Mails[at]), impl.ErrMany)
				wantCluster(t, "it cannot be heard", impl.DeliverMail(c, at, keep), withoutMail(c, at))
			}
		}
	}
}

// Nothing comes of these, but what the node knew to be agreed is sealed all the same.
func TestDeliverMailOfWhichNothingComes(t *testing.T) {
	for _, m := range []impl.Mail{mailOf(1, 1, 0, 2), mailOf(2, 1, 0, 2), mailOf(3, 1, 0, 2), mailOf(4, 1, 0, 2), mailOf(5, 1, 0, 2), mailOf(6, 1, 0, 2), getOf(1, 0, 9), mailOf(5, 1, 0, 5), entryMail(1, 0, 3, 2, 2), okOf(2, 0, 3, 0), okOf(2, 0, 6, 2)} {
		c := clusterWith(normalCluster(3, 3, 2), okOf(1, 2, 0, 0), m, changeOf(0, 1, 9))
		wantCluster(t, "nothing", impl.DeliverMail(c, 1, false), withoutMail(c, 1))
		wantCluster(t, "nothing, kept", impl.DeliverMail(c, 1, true), c)
		c.Nodes[0].Commit = 2
		wantCluster(t, "nothing but what is sealed", impl.DeliverMail(c, 1, false), withSealed(withoutMail(c, 1), logUpTo(2)))
		wantCluster(t, "nothing but what is sealed, kept", impl.DeliverMail(c, 1, true), withSealed(c, logUpTo(2)))
	}
}

// What is known to be agreed is sealed by a node that does something, not by a mail that is lost.
func TestLoseMailOfEachPlace(t *testing.T) {
	for _, many := range []int64{1, 2, 3, 60, 119, 120} {
		c := clusterWith(normalCluster(3, 3, 2), manyMails(many)...)
		c.Nodes[0].Commit = 2
		for at := range many {
			wantCluster(t, "lost", impl.LoseMail(c, at), withoutMail(c, at))
		}
	}
}

// eachCluster has one node that is the first of its view, one that follows, and one that is neither.
func eachCluster() impl.Cluster {
	asks := askedNode(2, 7, 3, 5, true, false, true)
	asks.Doers[0] = doerOf(6, 9, 9)
	return impl.Cluster{Nodes: []impl.Replica{leadingNode(6, 4, 4, 2, 1), normalNode(1, 3, 3, 5), asks}, Mails: manyMails(7), Sealed: logUpTo(1)}
}

func TestTimeoutOfEachNode(t *testing.T) {
	c := eachCluster()
	wantCluster(t, "the first one", impl.TimeoutAt(c, 0), clusterWith(withNode(c, changingNode(0, 3, 7, 6, 4)), changeOf(0, 1, 7), changeOf(0, 2, 7)))
	wantCluster(t, "one that follows", impl.TimeoutAt(c, 1), clusterWith(withNode(c, changingNode(1, 3, 4, 3, 5)), changeOf(1, 0, 4), changeOf(1, 2, 4)))
	wantCluster(t, "one that is not normal", impl.TimeoutAt(c, 2), clusterWith(withNode(c, changingNode(2, 3, 8, 3, 5)), changeOf(2, 0, 8), changeOf(2, 1, 8)))
	alone := normalCluster(1, 6, 3)
	wantCluster(t, "alone", impl.TimeoutAt(alone, 0), normalCluster(1, 7, 3))
}

func TestBeatOfEachNode(t *testing.T) {
	c := eachCluster()
	first := withCommit(c.Nodes[0], 2)
	want := withSealed(withNode(c, first), logUpTo(2))
	wantCluster(t, "the first one", impl.BeatAt(c, 0), clusterWith(want, prepareOf(first, 1, 2, 2), prepareOf(first, 2, 1, 2)))
	wantCluster(t, "one that follows", impl.BeatAt(c, 1), c)
	wantCluster(t, "one that is not normal", impl.BeatAt(c, 2), clusterWith(c, changeOf(2, 0, 7), changeOf(2, 1, 7), doOf(c.Nodes[2], 1)))
	few := withNode(c, changingNode(2, 3, 7, 3, 5))
	wantCluster(t, "one that asks alone", impl.BeatAt(few, 2), clusterWith(few, changeOf(2, 0, 7), changeOf(2, 1, 7)))
	alone := normalCluster(1, 6, 3)
	wantCluster(t, "alone", impl.BeatAt(alone, 0), withSealed(withNode(alone, withCommit(alone.Nodes[0], 3)), logUpTo(3)))
}

func TestAskOfEachNode(t *testing.T) {
	c := eachCluster()
	first := withCommit(withNew(c.Nodes[0]), 2)
	want := withSealed(withNode(c, first), logUpTo(2))
	wantCluster(t, "the first one", impl.AskAt(c, 0, newEntry()), clusterWith(want, prepareOf(first, 1, 4, 2), prepareOf(first, 2, 4, 2)))
	wantClusterCode(t, "one that follows", impl.AskAt(c, 1, newEntry()), impl.ErrState)
	wantClusterCode(t, "one that is not normal", impl.AskAt(c, 2, newEntry()), impl.ErrState)
	wantClusterCode(t, "an entry with a fault", impl.AskAt(c, 0, impl.Entry{}), impl.ErrRange)
	alone := normalCluster(1, 6, 39)
	then := withCommit(withNew(alone.Nodes[0]), 40)
	full := withSealed(withNode(alone, then), then.Log)
	wantCluster(t, "alone", impl.AskAt(alone, 0, newEntry()), full)
	wantClusterCode(t, "no room", impl.AskAt(full, 0, newEntry()), impl.ErrMany)
}

func TestCrashOfEachNode(t *testing.T) {
	c := eachCluster()
	for i := range c.Nodes {
		c.Nodes[i].Commit = 1
	}
	wantCluster(t, "the first one", impl.CrashAt(c, 0), withNode(c, leadingNode(6, 4, 0, 0, 0)))
	wantCluster(t, "one that follows", impl.CrashAt(c, 1), withNode(c, normalNode(1, 3, 3, 5)))
	wantCluster(t, "one that is not normal", impl.CrashAt(c, 2), withNode(c, changingNode(2, 3, 7, 3, 5)))
}

// roomAct is what a cluster does, without any mail, and what is sent by that.
type roomAct struct {
	name string
	was  impl.Cluster
	then impl.Replica
	sent []impl.Mail
	do   func(c impl.Cluster) impl.ClusterResult
}

// roomActs send 1 to 5 mails each.
func roomActs() []roomAct {
	var list []roomAct
	for size := int64(2); size <= 5; size++ {
		c := normalCluster(size, 0, 2)
		then, sent := afterTimeout(c.Nodes[1])
		list = append(list, roomAct{"TimeoutAt", c, then, sent, func(c impl.Cluster) impl.ClusterResult { return impl.TimeoutAt(c, 1) }})
		then, sent = afterBeat(c.Nodes[0])
		list = append(list, roomAct{"BeatAt", c, then, sent, func(c impl.Cluster) impl.ClusterResult { return impl.BeatAt(c, 0) }})
		then, sent = afterAsk(c.Nodes[0], newEntry())
		list = append(list, roomAct{"AskAt", c, then, sent, func(c impl.Cluster) impl.ClusterResult { return impl.AskAt(c, 0, newEntry()) }})
		c = withNode(c, changingNode(0, size, 6, 0, 2))
		for i := range c.Nodes[0].Asks {
			c.Nodes[0].Asks[i] = true
		}
		then, sent = afterBeat(c.Nodes[0])
		list = append(list, roomAct{"BeatAt, not normal", c, then, sent, func(c impl.Cluster) impl.ClusterResult { return impl.BeatAt(c, 0) }})
	}
	return list
}

// firstSent are those for which there is room ahead of the 120.
func firstSent(mails []impl.Mail, sent []impl.Mail) []impl.Mail {
	return sent[:min(len(sent), 120-len(mails))]
}

func TestMailsThatAreLostForRoom(t *testing.T) {
	sizes := map[int]int{}
	for _, act := range roomActs() {
		for many := int64(112); many <= 120; many++ {
			c := clusterWith(act.was, manyMails(many)...)
			kept := firstSent(c.Mails, act.sent)
			wantCluster(t, act.name, act.do(c), clusterWith(withNode(c, act.then), kept...))
			sizes[len(act.sent)-len(kept)]++
		}
	}
	for lost := range 6 {
		if sizes[lost] < 1 {
			t.Errorf("how often so many were lost: %v", sizes)
		}
	}
}

func TestMailsThatAreLostForRoomByHand(t *testing.T) {
	c := normalCluster(5, 0, 0)
	all := changesOf(2, 5, 1)
	for room := range int64(7) {
		full := clusterWith(c, manyMails(120-room)...)
		got := impl.TimeoutAt(full, 2).Cluster
		if want := slices.Concat(full.Mails, all[:min(room, 4)]); !slices.EqualFunc(got.Mails, want, sameMail) {
			t.Errorf("room for %d: %v", room, got.Mails[len(full.Mails):])
		}
		if got.Nodes[2].View != 1 || got.Nodes[2].Normal {
			t.Errorf("room for %d: the node is %v", room, got.Nodes[2])
		}
	}
}

// hearers are nodes that answer to a mail with none, one or many.
func hearers(size int64) []impl.Replica {
	begins := changingNode(6%size, size, 6, 0, 2)
	for i := range size {
		begins.Asks[i] = true
		if i != begins.Id {
			begins.Doers[i] = doerOf(0, 3, 1)
		}
	}
	return []impl.Replica{normalNode(1, size, 0, 2), begins, normalNode(1, size, 1, 2), normalNode(0, size, 0, 2)}
}

// deliveredAt has a mail at a place among many, and asks what is then, kept and not. It tells how many were lost, if it is kept.
func deliveredAt(t *testing.T, to impl.Replica, m impl.Mail, at, many int64) int {
	t.Helper()
	then, sent, code := afterHear(to, m)
	if code != impl.OK {
		t.Fatalf("%v at %v: the code %d", m, to, code)
	}
	c := withNode(clusterWith(normalCluster(to.Size, 0, 2), manyMails(many)...), to)
	c.Mails[at], c.Sealed = m, logUpTo(40)
	kept := withNode(c, then)
	wantCluster(t, "kept", impl.DeliverMail(c, at, true), clusterWith(kept, firstSent(kept.Mails, sent)...))
	gone := withoutMail(kept, at)
	wantCluster(t, "gone", impl.DeliverMail(c, at, false), clusterWith(gone, firstSent(gone.Mails, sent)...))
	return len(sent) - len(firstSent(kept.Mails, sent))
}

// The place of a mail that is gone is free for what is sent; with keep it is not.
func TestRoomBehindADelivery(t *testing.T) {
	lost := map[int]int{}
	for size := int64(2); size <= 5; size++ {
		for _, to := range hearers(size) {
			for kind := int64(1); kind <= 6; kind++ {
				for _, view := range []int64{0, 1, 6, 7} {
					m := mailOf(kind, (to.Id+1)%size, to.Id, view)
					for _, many := range []int64{1, 116, 117, 118, 119, 120} {
						lost[deliveredAt(t, to, m, many-1, many)]++
						lost[deliveredAt(t, to, m, many/2, many)]++
					}
				}
			}
		}
	}
	for n := range 5 {
		if lost[n] < 20 {
			t.Errorf("how often so many were lost: %v", lost)
		}
	}
}

// With Commit above the number Sealed these are the first of that node's log, whatever they were; else they stay.
func TestWhatIsSealed(t *testing.T) {
	for _, length := range []int64{1, 2, 5, 39, 40} {
		for commit := range length + 1 {
			for _, sealed := range []int64{0, 1, commit - 1, commit, commit + 1, length, 40} {
				if sealed < 0 || sealed > 40 {
					continue
				}
				c := withSealed(normalCluster(3, 1, length), otherLog(sealed))
				c.Nodes[0].Commit = commit
				want := otherLog(sealed)
				if commit > sealed {
					want = logUpTo(length)[:commit]
				}
				wantCluster(t, "Commit and Sealed", impl.BeatAt(c, 0), withSealed(c, want))
				wantCluster(t, "another one does something", impl.BeatAt(c, 2), c)
				wantCluster(t, "a crash", impl.CrashAt(c, 0), withNode(c, withCommit(c.Nodes[0], 0)))
			}
		}
	}
}

// Behind a crash a node knows of nothing, and what is sealed stays.
func TestSealedBehindACrash(t *testing.T) {
	c := allCome(t, impl.AskAt(allCome(t, impl.AskAt(impl.NewCluster(3).Cluster, 0, writeEntry(1)).Cluster), 0, writeEntry(2)).Cluster)
	both := []impl.Entry{writeEntry(1), writeEntry(2)}
	for node := range int64(3) {
		crashed := impl.CrashAt(c, node).Cluster
		if crashed.Nodes[node].Commit != 0 || !slices.Equal(crashed.Sealed, both) {
			t.Errorf("the crash of %d: %v", node, crashed)
		}
		beaten := impl.BeatAt(crashed, node).Cluster
		if !slices.Equal(beaten.Sealed, both) {
			t.Errorf("a beat behind the crash of %d: %v", node, beaten)
		}
	}
	for node := range int64(3) {
		c = impl.CrashAt(c, node).Cluster
	}
	c = allCome(t, impl.BeatAt(allCome(t, impl.BeatAt(c, 0).Cluster), 0).Cluster)
	if !slices.Equal(c.Sealed, both) || c.Nodes[0].Commit != 2 || c.Nodes[1].Commit != 2 || c.Nodes[2].Commit != 2 {
		t.Errorf("all crashed, and beat: %v", c)
	}
}

// A log that is taken over brings a Commit: of a MailStart, and of who begins.
func TestSealedBehindALogThatIsTakenOver(t *testing.T) {
	for _, sealed := range []int64{0, 3, 4, 5} {
		c := withSealed(normalCluster(3, 3, 2), otherLog(sealed))
		want := otherLog(sealed)
		if sealed < 4 {
			want = otherLog(9)[:4]
		}
		m := startOf(1, 2, 4, otherLog(9), 4)
		then, sent, _ := afterHear(c.Nodes[2], m)
		wantCluster(t, "a MailStart", impl.DeliverMail(clusterWith(c, m), 0, false), clusterWith(withSealed(withNode(c, then), want), sent...))
		m = doMail(2, 1, 4, 3, otherLog(9), 4)
		then, sent, _ = afterHear(c.Nodes[1], m)
		if !then.Normal || then.View != 4 || then.Commit != 4 {
			t.Fatalf("it should begin: %v", then)
		}
		wantCluster(t, "a MailDo", impl.DeliverMail(clusterWith(c, m), 0, false), clusterWith(withSealed(withNode(c, then), want), sent...))
		short := withNode(c, withCommit(normalNode(2, 3, 3, 9), 9))
		m = startOf(1, 2, 4, otherLog(4), 0)
		then, sent, _ = afterHear(short.Nodes[2], m)
		if then.Commit != 4 {
			t.Fatalf("Commit is as long as the log: %v", then)
		}
		wantCluster(t, "a shorter log", impl.DeliverMail(clusterWith(short, m), 0, false), clusterWith(withSealed(withNode(short, then), want), sent...))
	}
}
