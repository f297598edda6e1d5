package tests

import (
	"math"
	"slices"
	"testing"

	"loop.example/g00277/impl"
)

// placesAbout are places in a list of n, the ones beside its ends and some that are far away.
func placesAbout(n int64) []int64 {
	return append(badNumbers(0, n), 0, 1, n/2, n-1, n, n+2, -2, math.MinInt64+1, math.MaxInt64-1, 1<<32, -1<<32)
}

// wantGapCode asks both functions that are given a list, whatever places are asked for besides.
func wantGapCode(t *testing.T, name string, blocks int64, list []impl.Entry, code int64) {
	t.Helper()
	if got := impl.RunEntries(blocks, list).Code; got != code {
		t.Fatalf("%s: RunEntries has the code %d, want %d", name, got, code)
	}
	places := placesAbout(int64(len(list)))
	for _, k := range places {
		wantPlainCode(t, name, impl.PlainAfter(blocks, list, k), code)
		for _, other := range places[:10] {
			wantDeltaCode(t, name, impl.GapOf(blocks, list, k, other), code)
			wantDeltaCode(t, name, impl.GapOf(blocks, list, other, k), code)
		}
	}
}

func TestCodesOfARunComeFirst(t *testing.T) {
	for _, blocks := range append(badNumbers(0, 24), -2, 26) {
		for _, list := range [][]impl.Entry{nil, logUpTo(3), logUpTo(41), make([]impl.Entry, 41), {{}}} {
			wantGapCode(t, "no number of blocks", blocks, list, impl.ErrRange)
		}
	}
	for _, blocks := range []int64{0, 24} {
		for _, n := range []int64{41, 42, 1000} {
			wantGapCode(t, "too many entries", blocks, logUpTo(n), impl.ErrMany)
			wantGapCode(t, "too many entries, all wrong", blocks, make([]impl.Entry, n), impl.ErrMany)
		}
		for _, c := range faultyEntries() {
			wantGapCode(t, c.name, blocks, []impl.Entry{c.entry}, c.code)
		}
	}
}

// The list is asked as a whole: an entry at fault is told of, also where it stands behind all that is asked for.
func TestAnEntryAtFaultAtEachPlace(t *testing.T) {
	noKind, noClient := entryOf(1, 1, impl.Op{}), entryOf(100, 1, opOf(impl.OpDelete, 1, 0, 0))
	for at := range int64(40) {
		wantGapCode(t, "a form at each place", 8, logBut(40, at, noKind), impl.ErrForm)
		wantGapCode(t, "a range at each place", 8, logBut(40, at, noClient), impl.ErrRange)
	}
	for _, n := range []int64{1, 2, 38} {
		list := append(logUpTo(n), noKind)
		for k := range n + 2 {
			wantPlainCode(t, "the last one is at fault", impl.PlainAfter(8, list, k), impl.ErrForm)
			wantDeltaCode(t, "the last one is at fault", impl.GapOf(8, list, 0, k), impl.ErrForm)
			wantPlain(t, "without it", impl.PlainAfter(8, list[:n], min(k, n)), 0, 0, likeOf(impl.RunEntries(8, list[:min(k, n)]).Machine.Pool))
		}
		wantGapCode(t, "a form ahead of a range", 8, append(list, noClient), impl.ErrForm)
	}
}

func TestPlacesOutOfBounds(t *testing.T) {
	for _, n := range []int64{0, 1, 2, 7, 40} {
		list := logUpTo(n)
		for _, k := range placesAbout(n) {
			within := k >= 0 && k <= n
			if !within {
				wantPlainCode(t, "k is no place", impl.PlainAfter(8, list, k), impl.ErrRange)
			} else if got := impl.PlainAfter(8, list, k); got.Code != impl.OK {
				t.Errorf("of %d the first %d: got %v", n, k, got)
			}
			for _, to := range placesAbout(n) {
				got := impl.GapOf(8, list, k, to)
				if k < 0 || k > to || to > n {
					wantDeltaCode(t, "from or to is no place", got, impl.ErrRange)
				} else if got.Code != impl.OK {
					t.Errorf("of %d from %d to %d: got %v", n, k, to, got)
				}
			}
		}
	}
}

func TestPlacesByHand(t *testing.T) {
	for _, n := range []int64{0, 1, 5} {
		list := logUpTo(n)
		for _, two := range [][2]int64{{-1, 0}, {-1, n}, {-1, -1}, {n, n + 1}, {n + 1, n + 1}, {0, n + 1}, {-1, n + 1}, {n + 1, n}, {1, 0}, {n, n - 1}, {math.MinInt64, math.MaxInt64}, {math.MaxInt64, math.MinInt64}, {0, math.MaxInt64}, {math.MinInt64, 0}} {
			wantDeltaCode(t, "no places", impl.GapOf(8, list, two[0], two[1]), impl.ErrRange)
		}
	}
	wantDeltaCode(t, "from above to", impl.GapOf(8, logUpTo(5), 3, 2), impl.ErrRange)
}

// behindList has a volume written to, snapped and deleted, of two clients, with entries that are not done.
func behindList() []impl.Entry {
	return []impl.Entry{
		entryOf(7, 1, opOf(impl.OpCreate, 1, 0, 4)),
		entryOf(7, 2, opOf(impl.OpWrite, 1, 3, 9)),
		entryOf(7, 2, opOf(impl.OpWrite, 1, 3, 9)),
		entryOf(2, 5, opOf(impl.OpSnap, 1, 0, 6)),
		entryOf(2, 4, opOf(impl.OpDelete, 6, 0, 0)),
		entryOf(7, 3, opOf(impl.OpWrite, 1, 3, 10)),
		entryOf(2, 6, opOf(impl.OpWrite, 9, 3, 10)),
		entryOf(7, 4, opOf(impl.OpDiscard, 1, 3, 0)),
		entryOf(7, 5, opOf(impl.OpDelete, 1, 0, 0)),
		entryOf(7, 6, opOf(impl.OpCreate, 1, 0, 2)),
	}
}

func TestPlainAfterByHand(t *testing.T) {
	list := behindList()
	one, six := emptyVols(1, 4), emptyVols(1, 4, 6, 4)
	for k, want := range []impl.Plain{
		plainWith(8, nil, nil),
		plainWith(8, one, nil),
		plainWith(8, one, cellsOf(1, 3, 9), 1),
		plainWith(8, one, cellsOf(1, 3, 9), 1),
		plainWith(8, six, cellsOf(1, 3, 9, 6, 3, 9), 1),
		plainWith(8, six, cellsOf(1, 3, 9, 6, 3, 9), 1),
		plainWith(8, six, cellsOf(1, 3, 10, 6, 3, 9), 2),
		plainWith(8, six, cellsOf(1, 3, 10, 6, 3, 9), 2),
		plainWith(8, six, cellsOf(6, 3, 9), 1),
		plainWith(8, emptyVols(6, 4), cellsOf(6, 3, 9), 1),
		plainWith(8, emptyVols(1, 2, 6, 4), cellsOf(6, 3, 9), 1),
	} {
		wantPlain(t, "by hand", impl.PlainAfter(8, list, int64(k)), 0, 0, want)
		wantPlain(t, "as the last one", impl.PlainAfter(8, list[:k], int64(k)), 0, 0, want)
	}
	wantPlain(t, "one block alone", impl.PlainAfter(1, list, 6), 0, 0, plainWith(1, six, cellsOf(1, 3, 9, 6, 3, 9), 1))
	wantPlain(t, "no blocks", impl.PlainAfter(0, list, 10), 0, 0, plainWith(0, emptyVols(1, 2, 6, 4), nil))
}

// Of no entries there is one place alone, that of a new pool.
func TestNobodyIsBehindWhereNothingWasAsked(t *testing.T) {
	for blocks := range int64(25) {
		for _, list := range [][]impl.Entry{nil, {}} {
			empty := impl.Plain{Blocks: blocks}
			wantPlain(t, "no entries", impl.PlainAfter(blocks, list, 0), 0, 0, empty)
			wantDelta(t, "no entries", impl.GapOf(blocks, list, 0, 0), deltaWith(signed(empty), signed(empty), nil, nil))
		}
	}
}

// wantGap asks for the volumes and the steps of a gap; From and To are the signs.
func wantGap(t *testing.T, list []impl.Entry, from, to int64, vols []impl.Vol, steps ...int64) {
	t.Helper()
	a, b := impl.PlainAfter(8, list, from).Plain, impl.PlainAfter(8, list, to).Plain
	wantDelta(t, "a gap", impl.GapOf(8, list, from, to), deltaWith(signed(a), signed(b), vols, stepsOf(steps...)))
}

func TestGapOfByHand(t *testing.T) {
	list := behindList()
	one, six := emptyVols(1, 4), emptyVols(1, 4, 6, 4)
	wantGap(t, list, 0, 0, nil)
	wantGap(t, list, 0, 1, one)
	wantGap(t, list, 0, 2, one, 1, 1, 3, 9)
	wantGap(t, list, 1, 2, one, 1, 1, 3, 9)
	wantGap(t, list, 2, 3, one)
	wantGap(t, list, 3, 4, six, 1, 6, 3, 9)
	wantGap(t, list, 4, 5, six)
	wantGap(t, list, 0, 6, six, 1, 1, 3, 10, 1, 6, 3, 9)
	wantGap(t, list, 5, 6, six, 1, 1, 3, 10)
	wantGap(t, list, 6, 7, six)
	wantGap(t, list, 6, 8, six, 0, 1, 3, 0)
	wantGap(t, list, 1, 8, six, 1, 6, 3, 9)
	wantGap(t, list, 6, 9, emptyVols(6, 4))
	wantGap(t, list, 7, 10, emptyVols(1, 2, 6, 4), 0, 1, 3, 0)
	wantGap(t, list, 0, 10, emptyVols(1, 2, 6, 4), 1, 6, 3, 9)
	wantGap(t, list, 10, 10, emptyVols(1, 2, 6, 4))
	for k := range int64(11) {
		like := impl.PlainAfter(8, list, k).Plain
		wantGap(t, list, k, k, like.Vols)
		wantInts(t, "its words", impl.PackDelta(impl.GapOf(8, list, k, k).Delta), impl.OK, packed(deltaWith(signed(like), signed(like), like.Vols, nil)))
	}
}

// mostSteps fills a volume, and has as many snapshots of it as there may be.
func mostSteps() []impl.Entry {
	list := []impl.Entry{entryOf(1, 1, opOf(impl.OpCreate, 1, 0, 16))}
	for at := range int64(16) {
		list = append(list, entryOf(1, 2+at, opOf(impl.OpWrite, 1, at, 255-at)))
	}
	for i := range int64(5) {
		list = append(list, entryOf(2, 1+i, opOf(impl.OpSnap, 1, 0, 20+i)))
	}
	return list
}

// No gap comes to a code of DeltaOf: there are fewer places in six volumes than a difference may have steps.
func TestTheGreatestGap(t *testing.T) {
	list := mostSteps()
	got := impl.GapOf(24, list, 0, 22)
	if len(got.Delta.Steps) != 96 || len(got.Delta.Vols) != 6 || got.Code != impl.OK {
		t.Fatalf("got %v", got)
	}
	words := impl.PackDelta(got.Delta).List
	if len(words) != 202 {
		t.Fatalf("%d words", len(words))
	}
	taken := impl.CatchUp(impl.PlainAfter(24, list, 0).Plain, impl.JoinChunks(inChunks(t, words, 20)).List)
	lone := likeOf(impl.RunEntries(24, list).Machine.Pool)
	lone.Shares = nil
	wantPlain(t, "the greatest gap", taken, 0, 0, lone)
}

// inChunks are the words as ChunkDelta tells them, n at once.
func inChunks(t *testing.T, words []int64, n int64) [][]int64 {
	t.Helper()
	var chunks [][]int64
	for at := int64(0); at < int64(len(words)); at += n {
		chunk := impl.ChunkDelta(words, at, n)
		if chunk.Code != impl.OK {
			t.Fatalf("a chunk of %d at %d: got %v", n, at, chunk)
		}
		chunks = append(chunks, chunk.List)
	}
	return chunks
}

// chunksOf are chunks of these lengths; all their words are others.
func chunksOf(lengths ...int) [][]int64 {
	all := countedWords(sumOf(lengths))
	chunks := [][]int64{}
	for _, n := range lengths {
		chunks = append(chunks, all[:n:n])
		all = all[n:]
	}
	return chunks
}

func sumOf(lengths []int) int {
	sum := 0
	for _, n := range lengths {
		sum += n
	}
	return sum
}

// lengthsWith are count lengths of usual, but those that are told by place and length.
func lengthsWith(count, usual int, others ...int) []int {
	lengths := slices.Repeat([]int{usual}, count)
	for two := range slices.Chunk(others, 2) {
		lengths[two[0]] = two[1]
	}
	return lengths
}

func TestJoinChunks(t *testing.T) {
	wantInts(t, "no chunks", impl.JoinChunks(nil), impl.OK, nil)
	wantInts(t, "no chunks", impl.JoinChunks([][]int64{}), impl.OK, nil)
	wantInts(t, "one word", impl.JoinChunks([][]int64{{5}}), impl.OK, []int64{5})
	wantInts(t, "in order", impl.JoinChunks([][]int64{{5, 4}, {9}, {4, 5, 5}, {0}}), impl.OK, []int64{5, 4, 9, 4, 5, 5, 0})
	far := [][]int64{{math.MinInt64, -1}, {65536, math.MaxInt64, 1 << 32}, {-65535}}
	wantInts(t, "numbers that are no words", impl.JoinChunks(far), impl.OK, []int64{math.MinInt64, -1, 65536, math.MaxInt64, 1 << 32, -65535})
	for _, lengths := range [][]int{{20}, {20, 1}, {1, 20, 20, 2}, lengthsWith(15, 20), lengthsWith(300, 1), lengthsWith(299, 1, 298, 2), lengthsWith(150, 2), lengthsWith(16, 20, 3, 1, 15, 19), lengthsWith(100, 3)} {
		wantInts(t, "some chunks", impl.JoinChunks(chunksOf(lengths...)), impl.OK, countedWords(sumOf(lengths)))
	}
	same := countedWords(7)
	wantInts(t, "a chunk twice", impl.JoinChunks([][]int64{same, same}), impl.OK, slices.Concat(same, same))
	wantInts(t, "pieces of one list", impl.JoinChunks([][]int64{same[2:5], same[:4]}), impl.OK, []int64{1002, 1003, 1004, 1000, 1001, 1002, 1003})
}

func TestJoinTooManyChunks(t *testing.T) {
	for name, lengths := range map[string][]int{
		"301 chunks":                            lengthsWith(301, 1),
		"301 chunks, fewer words":               lengthsWith(301, 0, 7, 1),
		"301 chunks, all empty":                 lengthsWith(301, 0),
		"301 chunks, the first one empty":       lengthsWith(301, 1, 0, 0),
		"1000 chunks":                           lengthsWith(1000, 1),
		"301 words":                             lengthsWith(16, 20, 15, 1),
		"301 words, the first one short":        lengthsWith(16, 20, 0, 1),
		"320 words":                             lengthsWith(16, 20),
		"301 words in 300 chunks":               lengthsWith(300, 1, 299, 2),
		"301 words in one chunk":                {301},
		"301 words in two chunks":               {1, 300},
		"301 words and an empty one ahead":      {0, 301},
		"301 words and an empty one behind":     {301, 0},
		"301 words, an empty one, one too long": lengthsWith(16, 20, 0, 0, 7, 21),
		"301 words, the first one too long":     lengthsWith(15, 20, 0, 21),
		"5000 words":                            lengthsWith(250, 20),
		"many words, 300 chunks":                lengthsWith(300, 21, 4, 0),
	} {
		wantInts(t, name, impl.JoinChunks(chunksOf(lengths...)), impl.ErrMany, nil)
	}
}

func TestJoinChunksThatAreNotRight(t *testing.T) {
	wantInts(t, "a chunk that is nil", impl.JoinChunks([][]int64{nil}), impl.ErrForm, nil)
	for name, lengths := range map[string][]int{
		"one empty chunk":                      {0},
		"two empty chunks":                     {0, 0},
		"the first one is empty":               {0, 5, 5},
		"a middle one is empty":                {5, 0, 5},
		"the last one is empty":                {5, 5, 0},
		"21 words":                             {21},
		"the first one has 21":                 {21, 1},
		"a middle one has 21":                  {20, 21, 20},
		"the last one has 21":                  {20, 20, 21},
		"300 words in one":                     {300},
		"300 words, an empty one":              lengthsWith(16, 20, 9, 0),
		"300 words, one too long":              lengthsWith(15, 20, 0, 19, 14, 21),
		"300 words, one too long, first":       lengthsWith(15, 20, 0, 21, 14, 19),
		"300 empty chunks":                     lengthsWith(300, 0),
		"300 chunks, the last one empty":       lengthsWith(300, 1, 299, 0),
		"300 chunks, 300 words, an empty one":  lengthsWith(300, 1, 0, 0, 1, 2),
		"one too long, then an empty one":      {30, 0},
		"an empty one, then one that is right": {0, 20},
	} {
		wantInts(t, name, impl.JoinChunks(chunksOf(lengths...)), impl.ErrForm, nil)
	}
}

// joinedIn is what chunks should come to.
func joinedIn(chunks [][]int64) ([]int64, int64) {
	all := slices.Concat(chunks...)
	if len(chunks) > 300 || len(all) > 300 {
		return nil, impl.ErrMany
	}
	for _, chunk := range chunks {
		if len(chunk) == 0 || len(chunk) > 20 {
			return nil, impl.ErrForm
		}
	}
	return all, impl.OK
}

func anyChunk(x *dice, length int64) []int64 {
	var chunk []int64
	for range length {
		chunk = append(chunk, x.upTo(1<<30)-1<<29)
	}
	return chunk
}

func TestJoinAnyChunks(t *testing.T) {
	x := &dice{state: 141}
	codes := map[int64]int{}
	for range 8000 {
		var chunks [][]int64
		count, longest := []int64{3, 9, 30, 299, 300, 301}[x.upTo(6)], 1+x.upTo(20)
		if x.upTo(2) == 0 {
			count = x.upTo(40)
		}
		for range count {
			length := 1 + x.upTo(longest)
			if x.upTo(90) == 0 {
				length = []int64{0, 20, 21, 60}[x.upTo(4)]
			}
			chunks = append(chunks, anyChunk(x, length))
		}
		want, code := joinedIn(chunks)
		codes[code]++
		wantInts(t, "any chunks", impl.JoinChunks(chunks), code, want)
	}
	for _, code := range []int64{impl.OK, impl.ErrMany, impl.ErrForm} {
		if codes[code] < 700 {
			t.Errorf("the codes %v", codes)
		}
	}
}

// takenUp is what CatchUp must tell where the plain pool has no fault.
func takenUp(p impl.Plain, words []int64) (impl.Plain, int64) {
	read := impl.UnpackDelta(words)
	if read.Code != impl.OK {
		return impl.Plain{}, read.Code
	}
	return takenOf(p, read.Delta)
}

func wantCaught(t *testing.T, name string, p impl.Plain, words []int64) int64 {
	t.Helper()
	want, code := takenUp(p, words)
	got := impl.CatchUp(p, words)
	if code != impl.OK {
		wantPlainCode(t, name, got, code)
	} else {
		wantPlain(t, name, got, 0, 0, want)
	}
	return code
}

func TestCatchUpTellsThePlainFaultFirst(t *testing.T) {
	right := packed(deltaWith(signed(threeVols()), signed(threeVols()), threeVols().Vols, nil))
	for _, c := range faultyPlains() {
		own := packed(deltaWith(signed(c.plain), signed(c.plain), nil, nil))
		for _, words := range [][]int64{right, own, nil, {0}, make([]int64, 301), {-1}, {65536, 0, 0, 0}} {
			wantPlainCode(t, c.name, impl.CatchUp(c.plain, words), c.code)
		}
	}
}

// What cannot be read is told ahead of whether it belongs.
func TestCatchUpByWordsThatCannotBeRead(t *testing.T) {
	for _, c := range soundPlains() {
		right := packed(deltaWith(signed(c.plain), signed(c.plain), c.plain.Vols, nil))
		for n := range len(right) {
			wantPlainCode(t, c.name+", too few", impl.CatchUp(c.plain, right[:n]), impl.ErrText)
			wrong := slices.Clone(right)
			wrong[n] = -1
			wantPlainCode(t, c.name+", below", impl.CatchUp(c.plain, wrong), impl.ErrRange)
			wrong[n] = 65536
			wantPlainCode(t, c.name+", above", impl.CatchUp(c.plain, wrong), impl.ErrRange)
		}
		wantPlainCode(t, c.name+", one more", impl.CatchUp(c.plain, append(slices.Clone(right), 0)), impl.ErrText)
		wantPlainCode(t, c.name+", 301 words", impl.CatchUp(c.plain, append(slices.Clone(right), make([]int64, 301-len(right))...)), impl.ErrMany)
		wantPlainCode(t, c.name+", 301 that are none", impl.CatchUp(c.plain, slices.Repeat([]int64{-1}, 301)), impl.ErrMany)
		wantPlainCode(t, c.name+", 300 words", impl.CatchUp(c.plain, append(slices.Clone(right), make([]int64, 300-len(right))...)), impl.ErrText)
		for _, words := range farWords() {
			wantCaught(t, c.name, c.plain, words)
		}
	}
}

func TestCatchUpByWhatDoesNotBelong(t *testing.T) {
	p := threeVols()
	then := plainWith(6, p.Vols, p.Cells[:5])
	right := deltaWith(signed(p), signed(then), p.Vols, stepsOf(0, 7, 15, 0))
	wantPlain(t, "right", impl.CatchUp(p, packed(right)), 0, 0, then)
	for _, from := range []int64{0, 65520, right.From - 1, right.From + 1, right.To} {
		d := copyDelta(right)
		d.From = from
		wantPlainCode(t, "another From", impl.CatchUp(p, packed(d)), impl.ErrSum)
		d.Steps = stepsOf(1, 4, 0, 0)
		wantPlainCode(t, "another From ahead of a fault", impl.CatchUp(p, packed(d)), impl.ErrSum)
	}
	for _, to := range []int64{0, 65520, right.To - 1, right.To + 1, right.From} {
		d := copyDelta(right)
		d.To = to
		wantPlainCode(t, "another To", impl.CatchUp(p, packed(d)), impl.ErrSum)
		d.Steps = stepsOf(1, 4, 0, 0)
		wantPlainCode(t, "a fault ahead of another To", impl.CatchUp(p, packed(d)), impl.ErrForm)
	}
	d := copyDelta(right)
	d.Vols[0].Quota = 1
	wantPlainCode(t, "more cells than the Quota", impl.CatchUp(p, packed(d)), impl.ErrForm)
	for _, c := range soundPlains() {
		if signed(c.plain) != right.From {
			wantPlainCode(t, c.name, impl.CatchUp(c.plain, packed(right)), impl.ErrSum)
		}
	}
}

// Words that cannot lead anywhere as such, such as those of From 65521, are no words of a difference at all.
func TestCatchUpByWordsOfADeltaWithAFault(t *testing.T) {
	for _, words := range [][]int64{{65521, 0, 0, 0}, {0, 65521, 0, 0}, {0, 0, 1, 256, 0}, {0, 0, 0, 1, 513, 256}, {0, 0, 0, 2, 513, 5, 513, 5}} {
		for _, c := range soundPlains() {
			wantPlainCode(t, c.name, impl.CatchUp(c.plain, words), impl.ErrText)
		}
	}
}

// A difference of no steps is taken where it belongs: Shares are none then, and volumes may go, or come with nothing in them.
func TestCatchUpByNoSteps(t *testing.T) {
	for _, c := range soundPlains() {
		lone := copyPlain(c.plain)
		lone.Shares = nil
		wantPlain(t, c.name, impl.CatchUp(c.plain, packed(deltaWith(signed(lone), signed(lone), lone.Vols, nil))), 0, 0, lone)
		nothing := impl.Plain{Blocks: c.plain.Blocks}
		wantPlain(t, c.name, impl.CatchUp(c.plain, packed(deltaWith(signed(lone), signed(nothing), nil, nil))), 0, 0, nothing)
		nine := plainWith(c.plain.Blocks, emptyVols(99, 9), cellsIn(c.plain, 99))
		wantCaught(t, c.name, c.plain, packed(deltaWith(signed(lone), signed(nine), nine.Vols, nil)))
	}
}
