package tests

import (
	"slices"
	"testing"

	"loop.example/g00277/impl"
)

// wantDrive asks for the rounds and the cluster then.
func wantDrive(t *testing.T, name string, got impl.DriveResult, rounds int64, c impl.Cluster) {
	t.Helper()
	if got.Code != impl.OK || got.Rounds != rounds || !sameCluster(got.Cluster, c) {
		t.Fatalf("%s: got %v, want %d rounds and the cluster %v", name, got, rounds, c)
	}
	wantClusterFault(t, name, got.Cluster, impl.OK)
}

func wantDriveCode(t *testing.T, name string, got impl.DriveResult, code int64) {
	t.Helper()
	if got.Code != code || got.Rounds != 0 || !sameCluster(got.Cluster, impl.Cluster{}) {
		t.Fatalf("%s: got %v, want the code %d alone", name, got, code)
	}
}

// wantDrivenCode asks what all functions of the chapter tell of a cluster with a fault, whatever else they are given.
func wantDrivenCode(t *testing.T, name string, c impl.Cluster, code int64) {
	t.Helper()
	wantClusterFault(t, name, c, code)
	wantClusterCode(t, name, impl.RoundCluster(c), code)
	for _, rounds := range []int64{-1, 0, 1, 120, 121} {
		wantDriveCode(t, name, impl.RunCluster(c, rounds), code)
	}
	wantInt(t, name, impl.RoundsFor(c), code, 0)
	wantDriveCode(t, name, impl.SettleCluster(c), code)
	for _, blocks := range []int64{-1, 0, 8, 25} {
		wantInts(t, name, impl.AnswersOf(c, blocks), code, nil)
	}
}

func TestDriveAsksTheFaultFirst(t *testing.T) {
	codes := map[int64]int{}
	for _, b := range clusterBreaks() {
		wantDrivenCode(t, b.name, brokenBy(b), b.code)
		codes[b.code]++
	}
	if codes[impl.ErrMany] < 10 || codes[impl.ErrRange] < 10 || codes[impl.ErrForm] < 10 || len(codes) != 3 {
		t.Errorf("codes %v", codes)
	}
	wantDrivenCode(t, "nothing", impl.Cluster{}, impl.ErrMany)
	wantDrivenCode(t, "no nodes, and something sealed", impl.Cluster{Sealed: logUpTo(3)}, impl.ErrMany)
}

// Of a cluster that is even but for the fault: it is not told to be settled.
func TestDriveAsksTheFaultOfAnEvenCluster(t *testing.T) {
	even := evenCluster(4, 60, 9)
	for kind := int64(1); kind <= 6; kind++ {
		even.Mails = append(even.Mails, mailOf(kind, 0, 2, 60))
	}
	wantEven(t, "no fault", even, true)
	for _, b := range slices.Concat(countBreaks(), clusterMailBreaks(), sealedBreaks()) {
		c := copyCluster(even)
		b.do(&c)
		wantDrivenCode(t, b.name, c, b.code)
	}
}

// afterRound is the cluster behind a round, and how many mails were lost for room on the way.
func afterRound(c impl.Cluster) (impl.Cluster, int) {
	lost := 0
	done := func(then impl.Replica, sent []impl.Mail) {
		lost += len(sent) - len(firstSent(c.Mails, sent))
		c = doneAt(c, then, sent)
	}
	for range c.Mails {
		m := c.Mails[0]
		c = withoutMail(c, 0)
		if then, sent, code := afterHear(c.Nodes[m.To], m); code == impl.OK {
			done(then, sent)
		}
	}
	for id := range c.Nodes {
		done(afterBeat(c.Nodes[id]))
	}
	return c, lost
}

// wantRound has a round done, and asks what it comes to.
func wantRound(t *testing.T, name string, c impl.Cluster, want impl.Cluster) {
	t.Helper()
	wantCluster(t, name, impl.RoundCluster(c), want)
}

func TestARoundWithoutMails(t *testing.T) {
	c := eachCluster()
	c.Mails = nil
	first := withCommit(c.Nodes[0], 2)
	want := withSealed(withNode(c, first), logUpTo(2))
	want.Mails = []impl.Mail{prepareOf(first, 1, 2, 2), prepareOf(first, 2, 1, 2), changeOf(2, 0, 7), changeOf(2, 1, 7), doOf(c.Nodes[2], 1)}
	wantRound(t, "each beats", c, want)
	c = normalCluster(3, 4, 2)
	wantRound(t, "the second one is the first of its view", c, clusterWith(c, prepareOf(c.Nodes[1], 0, 0, 0), prepareOf(c.Nodes[1], 2, 0, 0)))
	c = impl.NewCluster(2).Cluster
	wantRound(t, "new nodes", c, clusterWith(c, bareMail(0, 1, 0, 0, 0)))
	c = impl.Cluster{Nodes: []impl.Replica{normalNode(0, 3, 1, 2), normalNode(1, 3, 2, 2), normalNode(2, 3, 3, 2)}}
	wantRound(t, "all follow", c, c)
}

func TestThreeRoundsByHand(t *testing.T) {
	x := writeEntry(7)
	c := impl.AskAt(impl.NewCluster(3).Cluster, 0, x).Cluster
	want := copyCluster(c)
	for id := int64(1); id < 3; id++ {
		want.Nodes[id].Log = []impl.Entry{x}
	}
	want.Mails = []impl.Mail{okOf(1, 0, 0, 1), okOf(2, 0, 0, 1), prepareOf(c.Nodes[0], 1, 0, 0), prepareOf(c.Nodes[0], 2, 0, 0)}
	wantRound(t, "both have it", c, want)

	c = copyCluster(want)
	want.Nodes[0].Oks, want.Nodes[0].Commit, want.Sealed = []int64{0, 1, 1}, 1, []impl.Entry{x}
	want.Mails = []impl.Mail{okOf(1, 0, 0, 1), okOf(2, 0, 0, 1), bareMail(0, 1, 0, 1, 1), bareMail(0, 2, 0, 1, 1)}
	wantRound(t, "it is agreed", c, want)

	c = copyCluster(want)
	want.Nodes[1].Commit, want.Nodes[2].Commit = 1, 1
	wantRound(t, "all know of it", c, want)
	wantRound(t, "and nothing is left to come", want, want)
}

// What is sent in the round itself waits for the next one: of the mails that are there at first one is heard each time.
func TestARoundHearsJustWhatWasThereAtFirst(t *testing.T) {
	c := impl.Cluster{Nodes: []impl.Replica{normalNode(0, 3, 1, 2), leadingNode(1, 5, 0, 0, 0), normalNode(2, 3, 1, 5)}}
	c.Mails = []impl.Mail{bareMail(1, 0, 1, 3, 0)}
	beats := []impl.Mail{prepareOf(c.Nodes[1], 0, 0, 0), prepareOf(c.Nodes[1], 2, 0, 0)}
	want := clusterWith(withoutMail(c, 0), slices.Concat([]impl.Mail{getOf(0, 1, 1)}, beats)...)
	wantRound(t, "it asks for the log", c, want)
	c = want
	want = copyCluster(c)
	want.Mails = slices.Concat([]impl.Mail{startOf(1, 0, 1, logUpTo(5), 0), okOf(0, 1, 1, 2), okOf(2, 1, 1, 5)}, beats)
	wantRound(t, "it is told the log", c, want)
}

// Mails come in their order: of two entries the one that comes first must be the next one of the log.
func TestTheOrderOfARound(t *testing.T) {
	c := normalCluster(3, 1, 2)
	third, fourth := entryMail(1, 0, 1, 2, 0), entryMail(1, 0, 1, 3, 0)
	fourth.Entry = writeEntry(9)
	beats := []impl.Mail{prepareOf(c.Nodes[1], 0, 0, 0), prepareOf(c.Nodes[1], 2, 0, 0)}
	both := withLog(c.Nodes[0], append(logUpTo(2), third.Entry, fourth.Entry), 0)
	wantRound(t, "in order", clusterWith(c, third, fourth), clusterWith(withNode(c, both), slices.Concat([]impl.Mail{okOf(0, 1, 1, 3), okOf(0, 1, 1, 4)}, beats)...))
	one := withLog(c.Nodes[0], append(logUpTo(2), third.Entry), 0)
	wantRound(t, "the other way round", clusterWith(c, fourth, third), clusterWith(withNode(c, one), slices.Concat([]impl.Mail{getOf(0, 1, 1), okOf(0, 1, 1, 3)}, beats)...))
	wantRound(t, "one twice", clusterWith(c, third, third), clusterWith(withNode(c, one), slices.Concat([]impl.Mail{okOf(0, 1, 1, 3), okOf(0, 1, 1, 3)}, beats)...))
}

// What the first one hears it tells in the same round, as beats come behind all mails.
func TestBeatsComeBehindAllMails(t *testing.T) {
	c := clusterWith(normalCluster(3, 0, 4), okOf(1, 0, 0, 3), okOf(2, 0, 0, 2), okOf(2, 0, 0, 4))
	first := leadingNode(0, 4, 0, 3, 4)
	first.Commit = 4
	want := withSealed(withNode(c, first), logUpTo(4))
	want.Mails = []impl.Mail{prepareOf(first, 1, 3, 4), prepareOf(first, 2, 4, 4)}
	wantRound(t, "the last mail counts", c, want)

	c = clusterWith(normalCluster(3, 0, 1), changeOf(2, 0, 2))
	want = withNode(c, asking(c.Nodes[0], 2, 2))
	both := want.Nodes[0]
	want.Mails = []impl.Mail{changeOf(0, 1, 2), changeOf(0, 2, 2), doOf(both, 2), changeOf(0, 1, 2), changeOf(0, 2, 2), doOf(both, 2)}
	wantRound(t, "it is not the first any more", c, want)
}

// From the lowest node to the greatest: of two that know as many to be agreed the lower one seals its own.
func TestBeatsRise(t *testing.T) {
	lower, upper := leadingNode(3, 4, 0, 2, 2), leadingNode(4, 4, 2, 0, 2)
	upper.Log = otherLog(4)
	last := changingNode(2, 3, 9, 1, 3)
	c := impl.Cluster{Nodes: []impl.Replica{lower, upper, last}}
	lower.Commit, upper.Commit = 2, 2
	want := impl.Cluster{Nodes: []impl.Replica{lower, upper, last}, Sealed: logUpTo(2)}
	want.Mails = []impl.Mail{prepareOf(lower, 1, 2, 2), prepareOf(lower, 2, 2, 2), prepareOf(upper, 0, 2, 2), prepareOf(upper, 2, 2, 2), changeOf(2, 0, 9), changeOf(2, 1, 9)}
	wantRound(t, "two first ones and one that asks", c, want)
	upper.Oks = []int64{3, 0, 3}
	c.Nodes[1] = withCommit(upper, 0)
	want.Nodes[1], want.Sealed = withCommit(upper, 3), otherLog(3)
	want.Mails[2], want.Mails[3] = prepareOf(upper, 0, 3, 3), prepareOf(upper, 2, 3, 3)
	wantRound(t, "the upper one knows of more", c, want)
}

func TestRoundsOfOneNode(t *testing.T) {
	for _, view := range []int64{0, 1, 7, 200} {
		for _, n := range []int64{0, 1, 5, 40} {
			c := normalCluster(1, view, n)
			want := withSealed(withNode(c, withCommit(c.Nodes[0], n)), logUpTo(n))
			wantRound(t, "all is agreed", c, want)
			wantRound(t, "once more", want, want)
			wantDrive(t, "all is agreed", impl.SettleCluster(c), min(n, 1), want)
			left := impl.Cluster{Nodes: []impl.Replica{changingNode(0, 1, view, 0, n)}}
			wantRound(t, "it is not normal", left, left)
			wantDrive(t, "it is not normal", impl.SettleCluster(left), 20+2*n, left)
		}
	}
}

// Each kind of mail, alone, at nodes of each state.
func TestARoundOfOneMail(t *testing.T) {
	c := eachCluster()
	for kind := int64(1); kind <= 6; kind++ {
		for to := range int64(3) {
			for from := range int64(3) {
				for _, view := range []int64{2, 3, 4, 6, 7, 8, 200} {
					if from == to {
						continue
					}
					c.Mails = []impl.Mail{mailOf(kind, from, to, view)}
					want, _ := afterRound(c)
					wantRound(t, "one mail", c, want)
					heard := impl.DeliverMail(c, 0, false).Cluster
					for node := range int64(3) {
						heard = impl.BeatAt(heard, node).Cluster
					}
					wantCluster(t, "one mail", impl.ClusterResult{Cluster: heard}, want)
				}
			}
		}
	}
}

// With 120 mails of which nothing comes there is room for all beats.
func TestAFullRoundOfWhichNothingComes(t *testing.T) {
	for _, size := range []int64{2, 3, 5} {
		c := normalCluster(size, size*20, 3)
		want, _ := afterRound(c)
		if int64(len(want.Mails)) != size-1 {
			t.Fatalf("the beats are %v", want.Mails)
		}
		for _, many := range []int{1, 118, 119, 120} {
			c.Mails = slices.Repeat([]impl.Mail{getOf(1, 0, 2)}, many)
			wantRound(t, "nothing", c, want)
		}
	}
}

// With a MailOk for each of the mails there is room for as many beats as there are fewer than 120.
func TestAFullRoundOfAnswers(t *testing.T) {
	for size := int64(2); size <= 5; size++ {
		c := normalCluster(size, 0, 3)
		beats := toOthers(c.Nodes[0], func(to int64) impl.Mail { return prepareOf(c.Nodes[0], to, 0, 0) })
		for many := 114; many <= 120; many++ {
			c.Mails = slices.Repeat([]impl.Mail{bareMail(0, 1, 0, 1, 0)}, many)
			want := copyCluster(c)
			want.Mails = slices.Repeat([]impl.Mail{okOf(1, 0, 0, 3)}, many)
			want.Mails = append(want.Mails, beats[:min(120-many, len(beats))]...)
			wantRound(t, "a MailOk for each", c, want)
		}
	}
}

// A mail that sends many finds as much room as mails have come ahead of it and were not answered.
func TestTheRoomWithinARound(t *testing.T) {
	for ahead := range 9 {
		c := normalCluster(5, 0, 3)
		nothing := getOf(1, 2, 0)
		c.Mails = slices.Repeat([]impl.Mail{nothing}, 120)
		c.Mails[ahead] = changeOf(3, 4, 1)
		want := withNode(c, asking(c.Nodes[4], 1, 3))
		want.Mails = changesOf(4, 5, 1)[:min(ahead+1, 4)]
		beats := toOthers(c.Nodes[0], func(to int64) impl.Mail { return prepareOf(c.Nodes[0], to, 0, 0) })
		want.Mails = slices.Concat(want.Mails, beats, changesOf(4, 5, 1))
		wantRound(t, "so many came ahead", c, want)
	}
}

// A mail that cannot be heard is gone, and that is all: the others come, and there is no code.
func TestARoundOfMailsThatCannotBeHeard(t *testing.T) {
	full := withSealed(normalCluster(3, 0, 40), logUpTo(5))
	unheard := entryMail(0, 1, 0, 40, 33)
	want, _ := afterRound(full)
	for _, many := range []int{1, 2, 119, 120} {
		c := clusterWith(full, slices.Repeat([]impl.Mail{unheard}, many)...)
		wantReplicaCode(t, "it cannot be heard", impl.HearReplica(c.Nodes[1], unheard), impl.ErrMany)
		wantRound(t, "none is heard", c, want)
	}
	for at := range 5 {
		mails := slices.Repeat([]impl.Mail{bareMail(0, 2, 0, 1, 1)}, 4)
		c := clusterWith(full, slices.Insert(mails, at, unheard)...)
		want := withNode(full, withCommit(full.Nodes[2], 1))
		want.Mails = slices.Repeat([]impl.Mail{okOf(2, 0, 0, 40)}, 4)
		want = clusterWith(want, toOthers(full.Nodes[0], func(to int64) impl.Mail { return prepareOf(full.Nodes[0], to, 0, 0) })...)
		wantRound(t, "the others are", c, want)
	}
}

// Whatever state the nodes are in, several rounds one behind another.
func TestRoundsOfManyClusters(t *testing.T) {
	x := &dice{state: 15}
	lost, full, unheard := 0, 0, 0
	for round := range int64(1500) {
		c := madeCluster(x, 1+round%5)
		if x.upTo(3) == 0 {
			c = likelyCluster(x, 1+round%5)
		}
		for range 3 {
			if len(c.Mails) == 120 {
				full++
			}
			unheard += len(slices.DeleteFunc(copyMails(c.Mails), func(m impl.Mail) bool { return impl.HearReplica(c.Nodes[m.To], m).Code == impl.OK }))
			want, gone := afterRound(c)
			wantRound(t, "a round", c, want)
			lost += gone
			c = want
		}
	}
	if lost < 60 || full < 100 || unheard < 100 {
		t.Errorf("%d mails were lost for room, %d times there were 120, %d could not be heard", lost, full, unheard)
	}
}
