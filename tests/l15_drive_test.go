package tests

import (
	"slices"
	"testing"

	"loop.example/g00277/impl"
)

// badRounds are no numbers of rounds.
func badRounds() []int64 {
	return append(farPlaces(121), badNumbers(0, 120)...)
}

// steadyClusters have no fault, and take few rounds or many, or never come to be even.
func steadyClusters() []impl.Cluster {
	return []impl.Cluster{impl.NewCluster(1).Cluster, impl.NewCluster(3).Cluster, evenCluster(5, 6, 40), eachCluster(), apartCluster(4), lateCluster(7, false), handMadeClusters()[1], normalCluster(2, 200, 5)}
}

func TestNoNumberOfRounds(t *testing.T) {
	if impl.MaxRounds != 120 {
		t.Errorf("MaxRounds is %d", impl.MaxRounds)
	}
	for _, c := range steadyClusters() {
		for _, rounds := range badRounds() {
			wantDriveCode(t, "no number of rounds", impl.RunCluster(c, rounds), impl.ErrRange)
		}
	}
}

// Each number of rounds there can be comes to what so many rounds come to, also where nothing changes any more.
func TestEachNumberOfRounds(t *testing.T) {
	for _, c := range steadyClusters() {
		now := c
		for rounds := int64(0); rounds <= 120; rounds++ {
			wantDrive(t, "so many rounds", impl.RunCluster(c, rounds), rounds, now)
			now = impl.RoundCluster(now).Cluster
		}
	}
}

// Without a round nothing is heard, and what a node knows to be agreed is not sealed.
func TestNoRounds(t *testing.T) {
	x := &dice{state: 1501}
	list := append(handMadeClusters(), steadyClusters()...)
	for round := range int64(60) {
		list = append(list, madeCluster(x, 1+round%5))
	}
	for _, c := range list {
		wantDrive(t, "none", impl.RunCluster(c, 0), 0, c)
		one, _ := afterRound(c)
		wantDrive(t, "one", impl.RunCluster(c, 1), 1, one)
	}
}

// Rounds that are run one behind another come to what they come to in one.
func TestRoundsInTwoParts(t *testing.T) {
	x := &dice{state: 1502}
	for round := range int64(40) {
		c := madeCluster(x, 1+round%5)
		whole := impl.RunCluster(c, 12).Cluster
		for first := range int64(13) {
			half := impl.RunCluster(c, first)
			wantDrive(t, "the rest", impl.RunCluster(half.Cluster, 12-first), 12-first, whole)
		}
	}
	for _, c := range steadyClusters() {
		half := impl.RunCluster(c, 60).Cluster
		wantDrive(t, "120 in two parts", impl.RunCluster(half, 60), 60, impl.RunCluster(c, 120).Cluster)
	}
}

// A log counts wherever it stands, whatever the node is like; what mails and Doers have, and what is sealed, counts for nothing.
func TestRoundsFor(t *testing.T) {
	for size := int64(1); size <= 5; size++ {
		wantInt(t, "new nodes", impl.RoundsFor(impl.NewCluster(size).Cluster), impl.OK, 20)
		wantInt(t, "something is sealed", impl.RoundsFor(withSealed(impl.NewCluster(size).Cluster, logUpTo(40))), impl.OK, 20)
		for node := range size {
			for n := int64(0); n <= 40; n++ {
				for _, others := range []int64{0, n / 2, n} {
					c := normalCluster(size, 3, others)
					wantInt(t, "the longest log", impl.RoundsFor(withNode(c, normalNode(node, size, 3, n))), impl.OK, 20+2*n)
					wantInt(t, "it is not normal", impl.RoundsFor(withNode(c, changingNode(node, size, 9, 2, n))), impl.OK, 20+2*n)
					wantInt(t, "all is agreed", impl.RoundsFor(withNode(c, withCommit(normalNode(node, size, 3, n), n))), impl.OK, 20+2*n)
				}
			}
		}
	}
	c := impl.Cluster{Nodes: []impl.Replica{knowingNode(0, 6, 1, 3, impl.Doer{}, doerOf(2, 40, 9)), normalNode(1, 2, 1, 2)}, Sealed: logUpTo(30)}
	c.Mails = []impl.Mail{doMail(1, 0, 6, 5, logUpTo(40), 5), startOf(1, 0, 1, logUpTo(39), 5), bareMail(1, 0, 1, 40, 40)}
	wantInt(t, "what is told of logs", impl.RoundsFor(c), impl.OK, 26)
	for i, lengths := range [][]int64{{5, 4, 3}, {4, 5, 3}, {3, 4, 5}, {5, 5, 5}, {0, 5, 0}} {
		c := impl.NewCluster(3).Cluster
		for id, n := range lengths {
			c.Nodes[id].Log = logUpTo(n)
		}
		if got := impl.RoundsFor(c); got.Value != 30 {
			t.Errorf("%d: got %v", i, got)
		}
	}
}

// settledIn has rounds done one by one, for at most as many as are told.
func settledIn(c impl.Cluster) (int64, impl.Cluster) {
	most := int64(20)
	for _, n := range c.Nodes {
		most = max(most, 20+2*int64(len(n.Log)))
	}
	rounds := int64(0)
	for rounds < most && !auditIn(c).even {
		c, _ = afterRound(c)
		rounds++
	}
	return rounds, c
}

func wantSettled(t *testing.T, name string, c impl.Cluster) impl.DriveResult {
	t.Helper()
	rounds, then := settledIn(c)
	got := impl.SettleCluster(c)
	wantDrive(t, name, got, rounds, then)
	return got
}

// Whatever is on its way, and whatever the first one knows of the others: what is even stays as it is.
func TestEvenClustersAreSettled(t *testing.T) {
	for size := int64(1); size <= 5; size++ {
		for _, view := range []int64{0, 1, 6, 200} {
			for _, n := range []int64{0, 1, 5, 40} {
				c := evenCluster(size, view, n)
				wantDrive(t, "even", impl.SettleCluster(c), 0, c)
				wantDrive(t, "nothing is sealed", impl.SettleCluster(withSealed(c, nil)), 0, withSealed(c, nil))
				if size > 1 {
					for _, many := range []int64{1, 7, 120} {
						with := clusterWith(c, manyMails(many)...)
						wantDrive(t, "mails are on their way", impl.SettleCluster(with), 0, with)
					}
				}
			}
		}
	}
}

// The first moment at which it is even is the last round, though another one would make it uneven again.
func TestItEndsAtOnce(t *testing.T) {
	c := evenCluster(3, 0, 2)
	c.Nodes[1].Commit = 1
	c.Mails = []impl.Mail{bareMail(0, 1, 0, 2, 2)}
	for range 4 {
		c.Mails = append(c.Mails, getOf(1, 0, 0))
	}
	got := wantSettled(t, "it hears of the second entry", c)
	if got.Rounds != 1 || len(got.Cluster.Mails) < 6 {
		t.Errorf("got %v", got)
	}
	late := evenCluster(3, 0, 2)
	late.Mails = []impl.Mail{changeOf(2, 1, 4)}
	wantDrive(t, "one will hear of another view", impl.SettleCluster(late), 0, late)
	wantEven(t, "it did", impl.RoundCluster(late).Cluster, false)
}

func TestSettledByHand(t *testing.T) {
	x := writeEntry(7)
	for size := int64(1); size <= 5; size++ {
		c := impl.AskAt(impl.NewCluster(size).Cluster, 0, x).Cluster
		rounds := int64(3)
		if size == 1 {
			rounds = 0
		}
		got := wantSettled(t, "one was asked", c)
		wantEven(t, "one was asked", got.Cluster, true)
		wantSealed(t, "one was asked", got.Cluster, []impl.Entry{x})
		if got.Rounds != rounds {
			t.Errorf("%d nodes: %d rounds", size, got.Rounds)
		}
		c.Mails = nil
		got = wantSettled(t, "its mails were lost", c)
		wantSealed(t, "its mails were lost", got.Cluster, []impl.Entry{x})
		if size > 1 && got.Rounds != 4 {
			t.Errorf("%d nodes, mails were lost: %d rounds", size, got.Rounds)
		}
		c = impl.TimeoutAt(c, size-1).Cluster
		got = wantSettled(t, "another view is asked for", c)
		wantEven(t, "another view is asked for", got.Cluster, true)
	}
}

// lateCluster has one that begins a view with n entries at once it hears of them. The one follower is told so, and has the log; for the other one there
// is no room among the mails, so that it hears of one entry after another. If it answers all the other mails, the first beats are lost as well.
func lateCluster(n int64, answers bool) impl.Cluster {
	begins := askedNode(1, 1, 0, 0, true, true, true)
	c := impl.Cluster{Nodes: []impl.Replica{normalNode(0, 3, 1, 0), begins, normalNode(2, 3, 1, 0)}}
	other := okOf(2, 1, 1, 0)
	if answers {
		other = bareMail(1, 2, 1, 0, 0)
	}
	c.Mails = slices.Repeat([]impl.Mail{other}, 120)
	c.Mails[0] = doMail(0, 1, 1, 1, logUpTo(n), 0)
	return c
}

// The rounds are told by the logs at first, and these are empty: what has become even behind the twentieth round is not.
func TestWhatBecomesEvenTooLate(t *testing.T) {
	evens, lates := 0, 0
	for _, answers := range []bool{false, true} {
		for n := int64(2); n <= 40; n++ {
			c := lateCluster(n, answers)
			wantInt(t, "at first", impl.RoundsFor(c), impl.OK, 20)
			takes := 2 * n
			if answers {
				takes++
			}
			wantEven(t, "one round less", impl.RunCluster(c, takes-1).Cluster, false)
			wantEven(t, "it takes so many", impl.RunCluster(c, takes).Cluster, true)
			got := wantSettled(t, "late", c)
			wantEven(t, "late", got.Cluster, takes <= 20)
			if got.Rounds != min(takes, 20) {
				t.Fatalf("%d entries: %d rounds, want %d of 20", n, got.Rounds, takes)
			}
			if takes == 20 {
				evens++
			} else if takes == 21 {
				lates++
			}
			wantInt(t, "behind it", impl.RoundsFor(got.Cluster), impl.OK, 20+2*n)
			again := wantSettled(t, "once more", got.Cluster)
			wantEven(t, "once more", again.Cluster, true)
			if got.Rounds+again.Rounds != takes {
				t.Fatalf("%d entries: %d and %d rounds", n, got.Rounds, again.Rounds)
			}
		}
	}
	if evens != 1 || lates != 1 {
		t.Errorf("%d became even in the last round, %d in the one behind it", evens, lates)
	}
}

// neverEven are clusters whose nodes cannot come together as they stand.
func neverEven() map[string]impl.Cluster {
	parted := evenCluster(3, 0, 5)
	parted.Nodes[2].Log[4] = writeEntry(700)
	longer := evenCluster(3, 0, 5)
	longer.Nodes[1] = withLog(longer.Nodes[1], logUpTo(6), 5)
	ahead := withNode(evenCluster(3, 0, 5), normalNode(2, 3, 3, 5))
	follow := impl.Cluster{Nodes: []impl.Replica{normalNode(0, 3, 1, 2), normalNode(1, 3, 2, 2), normalNode(2, 3, 3, 9)}}
	last := impl.Cluster{Nodes: []impl.Replica{changingNode(0, 1, 200, 3, 40)}}
	return map[string]impl.Cluster{"one entry is another": parted, "one follows with more": longer, "one follows nobody": ahead, "all follow": follow, "one is not normal": last}
}

func TestWhatNeverBecomesEven(t *testing.T) {
	for name, c := range neverEven() {
		got := wantSettled(t, name, c)
		wantInt(t, name, impl.RoundsFor(c), impl.OK, got.Rounds)
		wantEven(t, name, got.Cluster, false)
		wantEven(t, name, impl.RunCluster(c, 120).Cluster, false)
	}
}

// The rounds are those that were told at first, also where the longest log is taken away in the first of them.
func TestTheLogsBecomeShorter(t *testing.T) {
	for n := int64(1); n <= 40; n++ {
		c := impl.Cluster{Nodes: []impl.Replica{normalNode(0, 3, 0, n), normalNode(1, 3, 0, 0), normalNode(2, 3, 0, 0)}}
		c.Mails = []impl.Mail{startOf(1, 0, 1, nil, 0)}
		got := wantSettled(t, "the log is taken away", c)
		wantEven(t, "the log is taken away", got.Cluster, false)
		wantInt(t, "the log is taken away", impl.RoundsFor(got.Cluster), impl.OK, 20)
		if got.Rounds != 20+2*n {
			t.Fatalf("%d entries at first: %d rounds", n, got.Rounds)
		}
	}
}

func TestSettlesOfManyClusters(t *testing.T) {
	x := &dice{state: 1503}
	evens, unevens := map[bool]int{}, 0
	for round := range int64(500) {
		c := likelyCluster(x, 1+round%5)
		if x.upTo(4) == 0 {
			c = madeCluster(x, 1+round%5)
		}
		got := wantSettled(t, "many", c)
		if impl.EvenCluster(got.Cluster) {
			evens[got.Rounds > 0]++
		} else {
			unevens++
		}
	}
	if evens[true] < 30 || evens[false] < 30 || unevens < 30 {
		t.Errorf("even behind some rounds or at once: %v, not even: %d", evens, unevens)
	}
}

// The cluster's fault is asked ahead of all that RepliesOf tells; of a cluster without one that is the number of blocks alone.
func TestAnswersOf(t *testing.T) {
	x := &dice{state: 1504}
	for size := int64(1); size <= 5; size++ {
		for _, c := range []impl.Cluster{impl.NewCluster(size).Cluster, apartCluster(size), evenCluster(size, 6, 9)} {
			for _, blocks := range append(badNumbers(0, 24), -2, 26) {
				wantInts(t, "no number of blocks", impl.AnswersOf(c, blocks), impl.ErrRange, nil)
				wantInts(t, "no number of blocks, nothing sealed", impl.AnswersOf(withSealed(c, nil), blocks), impl.ErrRange, nil)
			}
			for _, blocks := range []int64{0, 1, 8, 23, 24} {
				wantInts(t, "nothing is sealed", impl.AnswersOf(withSealed(c, nil), blocks), impl.OK, nil)
				list := anyEntries(x, x.upTo(41))
				w, told := newMachineWalk(blocks), []int64(nil)
				for _, e := range list {
					one := w.do(t, e)
					told = append(told, one.reply*256+one.value)
				}
				wantInts(t, "what is sealed", impl.AnswersOf(withSealed(c, list), blocks), impl.OK, told)
			}
		}
	}
}

// By what is sealed alone, whatever the logs have: asked once, twice and too late.
func TestAnswersByHand(t *testing.T) {
	create, write, read := opOf(impl.OpCreate, 1, 0, 2), opOf(impl.OpWrite, 1, 3, 9), opOf(impl.OpRead, 1, 3, 0)
	list := []impl.Entry{entryOf(4, 1, create), entryOf(4, 3, write), entryOf(5, 1, read), entryOf(4, 3, write), entryOf(4, 2, opOf(impl.OpDelete, 1, 0, 0)), entryOf(5, 1, read), entryOf(5, 2, opOf(impl.OpRead, 1, 4, 0))}
	told := []int64{0, 0, 9, 0, 256 * impl.ErrState, 9, 256 * impl.ErrNone}
	for n := range len(list) + 1 {
		c := withSealed(normalCluster(3, 4, 5), list[:n])
		wantInts(t, "blocks", impl.AnswersOf(c, 4), impl.OK, told[:n])
		wantInts(t, "so it is told of a list", impl.RepliesOf(4, list[:n]), impl.OK, told[:n])
	}
	none := []int64{0, 256 * impl.ErrFull, 256 * impl.ErrNone, 256 * impl.ErrFull, 256 * impl.ErrState, 256 * impl.ErrNone, 256 * impl.ErrNone}
	wantInts(t, "no blocks", impl.AnswersOf(withSealed(normalCluster(3, 4, 5), list), 0), impl.OK, none)
	settled := impl.SettleCluster(impl.AskAt(impl.AskAt(impl.NewCluster(3).Cluster, 0, list[0]).Cluster, 0, list[1]).Cluster).Cluster
	wantInts(t, "asked at the first one", impl.AnswersOf(settled, 4), impl.OK, []int64{0, 0})
	forty := make([]impl.Entry, 40)
	for i := range forty {
		forty[i] = entryOf(99-int64(i), 999, create)
	}
	wantInts(t, "40 clients", impl.AnswersOf(withSealed(normalCluster(1, 0, 0), forty), 24), impl.OK, append([]int64{0}, slices.Repeat([]int64{256 * impl.ErrTaken}, 39)...))
}
