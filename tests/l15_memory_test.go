package tests

import (
	"math"
	"slices"
	"testing"

	"loop.example/g00277/impl"
)

// drivenTo is all that the functions of the chapter tell of one cluster.
type drivenTo struct {
	round           impl.ClusterResult
	none, some, end impl.DriveResult
	roundsFor       impl.IntResult
	answers         impl.IntsResult
}

func drivenOf(c impl.Cluster) drivenTo {
	return drivenTo{
		round: impl.RoundCluster(c), none: impl.RunCluster(c, 0), some: impl.RunCluster(c, 3), end: impl.SettleCluster(c),
		roundsFor: impl.RoundsFor(c), answers: impl.AnswersOf(c, 8),
	}
}

// clusters are those of the answers.
func (d *drivenTo) clusters() []*impl.Cluster {
	return []*impl.Cluster{&d.round.Cluster, &d.none.Cluster, &d.some.Cluster, &d.end.Cluster}
}

func (d drivenTo) copied() drivenTo {
	for _, c := range d.clusters() {
		*c = copyCluster(*c)
	}
	d.answers.List = slices.Clone(d.answers.List)
	return d
}

func (d drivenTo) scribble() {
	for _, c := range d.clusters() {
		scribbleCluster(*c)
	}
	scribbleWords(d.answers.List)
}

func sameDrive(a, b impl.DriveResult) bool {
	return a.Code == b.Code && a.Rounds == b.Rounds && sameCluster(a.Cluster, b.Cluster)
}

func (d drivenTo) same(other drivenTo) bool {
	return d.round.Code == other.round.Code && sameCluster(d.round.Cluster, other.round.Cluster) &&
		sameDrive(d.none, other.none) && sameDrive(d.some, other.some) && sameDrive(d.end, other.end) &&
		d.roundsFor == other.roundsFor && d.answers.Code == other.answers.Code && slices.Equal(d.answers.List, other.answers.List)
}

// eachDriven has clusters with faults and without, that take rounds or none, each with lists of its own, and roomy ones.
func eachDriven(yield func(c impl.Cluster) bool) {
	x := &dice{state: 1511}
	list := slices.Concat(handMadeClusters(), steadyClusters(), []impl.Cluster{{}, lateCluster(12, true)})
	for _, c := range neverEven() {
		list = append(list, c)
	}
	for round := range int64(100) {
		list = append(list, likelyCluster(x, 1+round%5))
	}
	for round := range int64(40) {
		list = append(list, madeCluster(x, 1+round%5))
	}
	for _, b := range someBreaks() {
		list = append(list, brokenBy(b))
	}
	for _, c := range list {
		if !yield(roomyCluster(c)) {
			return
		}
	}
}

func TestDriveChangesNoArgument(t *testing.T) {
	codes, settled := map[int64]int{}, map[bool]int{}
	for c := range eachDriven {
		kept := keep(c)
		got := drivenOf(c)
		kept.wantUnchanged(t, "all functions")
		if again := drivenOf(c); !again.same(got) {
			t.Fatalf("%v: another answer at the same argument: %+v and %+v", c, got, again)
		}
		codes[got.round.Code]++
		settled[got.end.Rounds > 0]++
	}
	if codes[impl.OK] < 150 || codes[impl.ErrMany] < 10 || codes[impl.ErrRange] < 10 || codes[impl.ErrForm] < 10 || settled[true] < 80 {
		t.Errorf("codes %v, settled behind some rounds: %v", codes, settled)
	}
}

func TestDriveSharesNoMemory(t *testing.T) {
	lists := 0
	for c := range eachDriven {
		d, again := drivenOf(c), drivenOf(c)
		lists += wantApart(t, "answers and the argument", c, d.round, d.none, d.some, d.end, d.answers, again.round, again.none, again.some, again.end, again.answers)
	}
	if lists < 20000 {
		t.Errorf("%d lists", lists)
	}
}

// What is written into an answer is not in the argument nor in another answer, and what is written into the argument is in none.
func TestWhatIsWrittenIntoADrivenClusterStaysThere(t *testing.T) {
	for c := range eachDriven {
		kept := keep(c)
		got, again := drivenOf(c), drivenOf(c)
		want := got.copied()
		got.scribble()
		kept.wantUnchanged(t, "the answers were written into")
		scribbleCluster(c)
		if !again.same(want) {
			t.Fatalf("what is written elsewhere is in the answer: %+v, want %+v", again, want)
		}
	}
}

// Lists that are pieces of one are no fault; an answer has each its own.
func TestDriveOfListsThatShareMemory(t *testing.T) {
	c := sharingCluster()
	kept := keep(c)
	apart := copyCluster(c)
	got := drivenOf(c)
	if want := drivenOf(apart); !got.same(want) {
		t.Errorf("got %+v, want %+v", got, want)
	}
	wantRound(t, "it shares", c, drivenOf(apart).round.Cluster)
	for _, then := range got.clusters() {
		wantApart(t, "an answer", *then)
	}
	kept.wantUnchanged(t, "lists that share memory")
	log := roomy(logUpTo(9))
	even := evenCluster(3, 6, 5)
	for i := range even.Nodes {
		even.Nodes[i].Log = log[:5]
	}
	even.Sealed = log[:5]
	kept = keep(even)
	for _, then := range []impl.Cluster{impl.RoundCluster(even).Cluster, impl.RunCluster(even, 0).Cluster, impl.SettleCluster(even).Cluster} {
		wantApart(t, "of one that is even", then)
		scribbleCluster(then)
		kept.wantUnchanged(t, "of one that is even")
	}
}

// Nil and an empty list are the same, in the argument and in the answer.
func TestDriveOfEmptyLists(t *testing.T) {
	for size := int64(1); size <= 5; size++ {
		for _, c := range []impl.Cluster{impl.NewCluster(size).Cluster, apartCluster(size), evenCluster(size, 3, 0), evenCluster(size, 3, 2)} {
			full := copyCluster(c)
			full.Mails, full.Sealed = []impl.Mail{}, append([]impl.Entry{}, c.Sealed...)
			for i, n := range full.Nodes {
				n.Log, n.Oks, n.Asks, n.Doers = append([]impl.Entry{}, n.Log...), append([]int64{}, n.Oks...), append([]bool{}, n.Asks...), append([]impl.Doer{}, n.Doers...)
				full.Nodes[i] = n
			}
			if one, other := drivenOf(c), drivenOf(full); !one.same(other) {
				t.Errorf("%v: got %+v, and with empty lists %+v", c, one, other)
			}
		}
	}
	wantDrivenCode(t, "empty lists", impl.Cluster{Nodes: []impl.Replica{}, Mails: []impl.Mail{}, Sealed: []impl.Entry{}}, impl.ErrMany)
}

// Numbers of any size and sign, in lists of any length, at any place.
func TestDriveOfAnyCluster(t *testing.T) {
	x := &dice{state: 1512}
	codes := map[int64]int{}
	for range 1200 {
		c := likelyCluster(x, 1+x.upTo(5))
		if x.upTo(3) == 0 {
			c = madeCluster(x, 1+x.upTo(5))
		}
		switch x.upTo(9) {
		case 0:
			c.Nodes = append(c.Nodes, c.Nodes[:x.upTo(int64(len(c.Nodes)+1))]...)
		case 1:
			c.Nodes = c.Nodes[:x.upTo(int64(len(c.Nodes)))]
		case 2:
			c.Mails = append(c.Mails, manyMails(x.upTo(150))...)
		case 3:
			c.Sealed = append(c.Sealed, logUpTo(x.upTo(80))...)
		}
		anyEnds(x, c)
		code := faultIn(c)
		codes[code]++
		if code != impl.OK {
			wantDrivenCode(t, "any", c, code)
			continue
		}
		want, _ := afterRound(c)
		wantRound(t, "any", c, want)
		wantDrive(t, "any", impl.RunCluster(c, 1), 1, want)
		wantSettled(t, "any", c)
		for _, n := range []int64{math.MinInt64, -1, 121, math.MaxInt64} {
			wantDriveCode(t, "any number of rounds", impl.RunCluster(c, n), impl.ErrRange)
			wantInts(t, "any number of blocks", impl.AnswersOf(c, n), impl.ErrRange, nil)
		}
	}
	if codes[impl.OK] < 300 || codes[impl.ErrRange] < 60 || codes[impl.ErrForm] < 60 || codes[impl.ErrMany] < 60 {
		t.Errorf("codes %v", codes)
	}
}
