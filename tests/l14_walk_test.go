package tests

import (
	"slices"
	"testing"

	"loop.example/g00277/impl"
)

// busyOp has few ids, and often makes snapshots of what is there, or takes them away.
func busyOp(x *dice) impl.Op {
	vol, other := 1+x.upTo(3), 1+x.upTo(7)
	switch k := x.upTo(16); {
	case k < 3:
		return opOf(impl.OpCreate, 1+x.upTo(4), 0, 1+x.upTo(16))
	case k < 9:
		return opOf(impl.OpWrite, vol, x.upTo(16), x.upTo(256))
	case k < 10:
		return opOf(impl.OpDiscard, vol, x.upTo(16), 0)
	case k < 13:
		return opOf(impl.OpSnap, vol, 0, other)
	case k < 14:
		return opOf(impl.OpRead, vol, x.upTo(16), 0)
	}
	return opOf(impl.OpDelete, 1+x.upTo(4), 0, 0)
}

// fillOp writes to one volume in the first half of a list, and has snapshots of it behind that.
func fillOp(x *dice, first bool) impl.Op {
	if first {
		return opOf(impl.OpWrite, 1, x.upTo(16), x.upTo(256))
	}
	return opOf(impl.OpSnap, 1, 0, 2+x.upTo(9))
}

// busyEntries are entries of several clients, some asked twice or too late, with more to do than anyEntries has.
func busyEntries(x *dice, n int64) []impl.Entry {
	list := anyEntries(x, n)
	fills := x.upTo(2) == 0
	if fills && n > 0 {
		list[0].Op.Value = 16
	}
	for i := 2; i < len(list); i++ {
		switch {
		case fills && x.upTo(5) > 0:
			list[i].Op = fillOp(x, i < len(list)/2)
		case x.upTo(3) > 0:
			list[i].Op = busyOp(x)
		}
	}
	return list
}

// behindWalk is a list of entries, and what the pool is like behind each of them, told by doing one after another.
type behindWalk struct {
	blocks int64
	list   []impl.Entry
	likes  []impl.Plain
	// snaps tells for each entry whether it was done as a snapshot.
	snaps []bool
}

func walkBehind(t *testing.T, blocks int64, list []impl.Entry, seen *behindSeen) behindWalk {
	t.Helper()
	m := impl.NewMachine(blocks).Machine
	w := behindWalk{blocks: blocks, list: list, likes: []impl.Plain{likeOf(m.Pool)}}
	for _, x := range list {
		got := impl.ApplyEntry(m, x)
		if got.Code != impl.OK {
			t.Fatalf("%v of %v: got %v", x, m, got)
		}
		seen.note(x, m, got)
		m = got.Machine
		w.likes = append(w.likes, likeOf(m.Pool))
		w.snaps = append(w.snaps, got.Fresh && got.Reply == impl.OK && x.Op.Kind == impl.OpSnap)
	}
	return w
}

// cameAgain tells whether a volume is there at from and at to, and was not in between.
func (w behindWalk) cameAgain(from, to int64) bool {
	for _, v := range w.likes[from].Vols {
		if !hasVol(w.likes[to].Vols, v.Id) {
			continue
		}
		for _, like := range w.likes[from:to] {
			if !hasVol(like.Vols, v.Id) {
				return true
			}
		}
	}
	return false
}

// behindSeen counts what the runs came to.
type behindSeen struct {
	replies                                           map[int64]int
	kinds                                             map[int64]int
	twice, late                                       int
	runs, again, snapped, ten, thirty, most, none, no int
}

func newBehindSeen() *behindSeen {
	return &behindSeen{replies: map[int64]int{}, kinds: map[int64]int{}}
}

func (s *behindSeen) note(x impl.Entry, m impl.Machine, got impl.MachineResult) {
	switch {
	case got.Fresh:
		s.replies[got.Reply]++
		s.kinds[x.Op.Kind]++
	case impl.SessionOf(m, x.Client).Session.Seq == x.Seq:
		s.twice++
	default:
		s.late++
	}
}

func (s *behindSeen) count(w behindWalk, from, to int64, steps int) {
	s.runs++
	if w.cameAgain(from, to) {
		s.again++
	}
	if slices.Contains(w.snaps[from:to], true) {
		s.snapped++
	}
	if steps >= 10 {
		s.ten++
	}
	if steps >= 30 {
		s.thirty++
	}
	if steps == 0 && from < to {
		s.none++
	}
	if from == to {
		s.no++
	}
	s.most = max(s.most, steps)
}

// told is the gap as words, cut into chunks of n and put together again.
func (w behindWalk) told(t *testing.T, from, to, n int64) []int64 {
	t.Helper()
	a, b := w.likes[from], w.likes[to]
	gap := impl.GapOf(w.blocks, w.list, from, to)
	want := deltaWith(signed(a), signed(b), b.Vols, stepsTo(a, b))
	if gap.Code != impl.OK || !sameDelta(gap.Delta, want) {
		t.Fatalf("of %d blocks and %v, from %d to %d: got %v, want %v", w.blocks, w.list, from, to, gap, want)
	}
	words := packed(want)
	wantInts(t, "the words of a gap", impl.PackDelta(gap.Delta), impl.OK, words)
	joined := impl.JoinChunks(inChunks(t, words, n))
	wantInts(t, "the chunks of a gap", joined, impl.OK, words)
	return joined.List
}

// wantThere asks that p is where the others are behind the first k.
func (w behindWalk) wantThere(t *testing.T, name string, got impl.PlainResult, k int64) impl.Plain {
	t.Helper()
	want := copyPlain(w.likes[k])
	want.Shares = nil
	wantPlain(t, name, got, 0, 0, want)
	there := impl.PlainAfter(w.blocks, w.list, k).Plain
	if !impl.SamePlains(got.Plain, there) || !impl.SamePlains(there, got.Plain) {
		t.Fatalf("%s: of %d blocks and %v: %v is not as what is there behind %d", name, w.blocks, w.list, got, k)
	}
	return got.Plain
}

// wantEachGap asks P15 of all from and to, each with words told in another way.
func (w behindWalk) wantEachGap(t *testing.T, x *dice, seen *behindSeen) {
	t.Helper()
	count := int64(len(w.list))
	for from := range count + 1 {
		behind := impl.PlainAfter(w.blocks, w.list, from)
		wantPlain(t, "PlainAfter", behind, 0, 0, w.likes[from])
		for to := from; to <= count; to++ {
			words := w.told(t, from, to, 1+x.upTo(20))
			w.wantThere(t, "a gap", impl.CatchUp(behind.Plain, words), to)
			wantCaught(t, "at another place", w.likes[x.upTo(count+1)], words)
			seen.count(w, from, to, len(stepsTo(w.likes[from], w.likes[to])))
		}
	}
}

// Over many lists and pools of several sizes, for all from and to: who is behind comes to where the others are.
func TestWhoIsBehindCatchesUp(t *testing.T) {
	x := &dice{state: 142}
	seen := newBehindSeen()
	for round := range int64(140) {
		blocks := []int64{0, 1, 4, 9, 18, 24, 24}[round%7]
		list := busyEntries(x, x.upTo(27))
		if round%8 == 7 {
			list = busyEntries(x, 40)
		}
		walkBehind(t, blocks, list, seen).wantEachGap(t, x, seen)
	}
	seen.check(t)
}

func (s *behindSeen) check(t *testing.T) {
	t.Helper()
	t.Logf("%d runs: %d with volumes that went and came again, %d with snapshots, %d of 10 steps and more, %d of 30 and more (%d at most), %d of no steps from below to, %d from = to", s.runs, s.again, s.snapped, s.ten, s.thirty, s.most, s.none, s.no)
	t.Logf("replies %v, kinds %v, asked twice %d, too late %d", s.replies, s.kinds, s.twice, s.late)
	if s.runs < 10000 || s.again < 500 || s.snapped < 1000 || s.ten < 1000 || s.thirty < 100 || s.none < 500 || s.no < 500 || s.twice < 20 || s.late < 20 {
		t.Errorf("too few of some: %+v", *s)
	}
	for kind := int64(impl.OpCreate); kind <= impl.OpDelete; kind++ {
		if s.kinds[kind] < 10 {
			t.Errorf("the kinds %v", s.kinds)
		}
	}
	for _, reply := range []int64{impl.OK, impl.ErrNone, impl.ErrTaken, impl.ErrFull, impl.ErrQuota, impl.ErrMany} {
		if s.replies[reply] < 2 {
			t.Errorf("the replies %v", s.replies)
		}
	}
}

// Whatever the size of the chunks: the words are the same, and lead there.
func TestEachSizeOfChunks(t *testing.T) {
	x := &dice{state: 143}
	for range 12 {
		w := walkBehind(t, 24, busyEntries(x, 40), newBehindSeen())
		from := x.upTo(20)
		to := from + x.upTo(41-from)
		for n := int64(1); n <= 20; n++ {
			w.wantThere(t, "in chunks", impl.CatchUp(w.likes[from], w.told(t, from, to, n)), to)
		}
	}
}

// Several gaps one behind another lead to where one leads; who caught up once has no Shares any more.
func TestGapsOneBehindAnother(t *testing.T) {
	x := &dice{state: 144}
	for round := range int64(80) {
		w := walkBehind(t, []int64{0, 2, 8, 24, 24}[round%5], busyEntries(x, 1+x.upTo(40)), newBehindSeen())
		count := int64(len(w.list))
		from := x.upTo(count + 1)
		p := w.likes[from]
		for at := from; at < count; {
			to := min(count, at+x.upTo(6))
			p = w.wantThere(t, "one gap of several", impl.CatchUp(p, w.told(t, at, to, 1+x.upTo(20))), to)
			at = max(at, to)
			if x.upTo(9) == 0 {
				break
			}
		}
	}
}

// For all from, middle and to of a list: two gaps lead to where one leads.
func TestTwoGapsAreAsOne(t *testing.T) {
	x := &dice{state: 145}
	for range 6 {
		w := walkBehind(t, 24, busyEntries(x, 12), newBehindSeen())
		for from := range int64(13) {
			for middle := from; middle < 13; middle++ {
				half := w.wantThere(t, "to the middle", impl.CatchUp(w.likes[from], w.told(t, from, middle, 7)), middle)
				for to := middle; to < 13; to++ {
					w.wantThere(t, "from the middle", impl.CatchUp(half, w.told(t, middle, to, 20)), to)
				}
			}
		}
	}
}

// Each place of a snapshot and of a volume that is full goes and comes.
func TestTheGreatestGaps(t *testing.T) {
	list := mostSteps()
	list = append(list, entryOf(3, 1, opOf(impl.OpDelete, 1, 0, 0)), entryOf(3, 2, opOf(impl.OpCreate, 1, 0, 16)))
	for at := range int64(15) {
		list = append(list, entryOf(4, 1+at, opOf(impl.OpWrite, 20+at%5, at, 100+at)))
	}
	seen := newBehindSeen()
	walkBehind(t, 24, list, seen).wantEachGap(t, &dice{state: 146}, seen)
	if seen.most < 95 || seen.again < 100 || seen.thirty < 200 {
		t.Errorf("%+v", *seen)
	}
}
