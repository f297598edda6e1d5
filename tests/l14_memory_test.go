package tests

import (
	"math"
	"slices"
	"testing"

	"loop.example/g00277/impl"
)

// gapPlaces are from and to within a list of n, at its ends and out of them.
func gapPlaces(n int64) [][2]int64 {
	return [][2]int64{{0, 0}, {0, n}, {n / 2, n}, {0, n / 2}, {n, n}, {-1, n}, {n, 0}, {0, n + 1}, {math.MinInt64, math.MaxInt64}}
}

func TestGapsChangeNoList(t *testing.T) {
	codes := map[int64]int{}
	for _, list := range entryLists() {
		whole := wholeLog(list)
		for _, blocks := range []int64{0, 2, 24, 25, -1} {
			for _, two := range gapPlaces(int64(len(list))) {
				plain, again := impl.PlainAfter(blocks, list, two[1]), impl.PlainAfter(blocks, list, two[1])
				gap, other := impl.GapOf(blocks, list, two[0], two[1]), impl.GapOf(blocks, list, two[0], two[1])
				wantApart(t, "answers and the list", list, plain, again, gap, other)
				if plain.Code != again.Code || !samePlain(plain.Plain, again.Plain) || gap.Code != other.Code || !sameDelta(gap.Delta, other.Delta) {
					t.Fatalf("another answer at the same list: %v and %v, %v and %v", plain, again, gap, other)
				}
				scribblePlain(plain.Plain)
				scribbleDelta(gap.Delta)
				if !slices.Equal(wholeLog(list), whole) {
					t.Fatalf("%v became %v", whole, wholeLog(list))
				}
				wantSamePlain(t, impl.PlainAfter(blocks, list, two[1]), again)
				codes[gap.Code]++
			}
		}
	}
	if codes[impl.OK] < 300 || codes[impl.ErrRange] < 300 || codes[impl.ErrMany] < 20 || codes[impl.ErrForm] < 20 {
		t.Errorf("the codes %v", codes)
	}
}

func wantSamePlain(t *testing.T, got, want impl.PlainResult) {
	t.Helper()
	if got.Code != want.Code || got.Reply != want.Reply || got.Value != want.Value || !samePlain(got.Plain, want.Plain) {
		t.Fatalf("got %v, want %v", got, want)
	}
}

// What is written into the list behind a call is not in its answer.
func TestWhatIsWrittenIntoAListIsNotInTheGap(t *testing.T) {
	list := roomy(behindList())
	plain, gap := impl.PlainAfter(8, list, 7), impl.GapOf(8, list, 1, 7)
	wantPlain, want := copyPlain(plain.Plain), copyDelta(gap.Delta)
	for i := range list[:cap(list)] {
		list[:cap(list)][i] = impl.Entry{Client: -77, Seq: -77}
	}
	if !samePlain(plain.Plain, wantPlain) || !sameDelta(gap.Delta, want) || len(want.Steps) != 2 {
		t.Errorf("%v and %v, want %v and %v", plain, gap, wantPlain, want)
	}
}

// roomyChunks have room behind each chunk and behind the last one.
func roomyChunks(chunks [][]int64) [][]int64 {
	chunks = roomy(chunks)
	for i, chunk := range chunks {
		chunks[i] = roomy(chunk)
	}
	return chunks
}

func wholeChunks(chunks [][]int64) [][]int64 {
	var whole [][]int64
	for _, chunk := range chunks[:cap(chunks)] {
		whole = append(whole, slices.Clone(chunk[:cap(chunk)]))
	}
	return whole
}

func sameChunks(a, b [][]int64) bool {
	return slices.EqualFunc(a, b, func(x, y []int64) bool { return slices.Equal(x, y) })
}

// chunkLists are right and wrong ones.
func chunkLists() [][][]int64 {
	return [][][]int64{
		nil, chunksOf(1), chunksOf(20), chunksOf(3, 1, 20), chunksOf(lengthsWith(15, 20)...), chunksOf(lengthsWith(300, 1)...),
		chunksOf(0), chunksOf(5, 0), chunksOf(21), chunksOf(20, 21), chunksOf(lengthsWith(301, 1)...), chunksOf(lengthsWith(16, 20)...), chunksOf(301),
	}
}

func TestJoinChunksChangesNoChunk(t *testing.T) {
	for _, chunks := range chunkLists() {
		chunks = roomyChunks(chunks)
		whole := wholeChunks(chunks)
		got, again := impl.JoinChunks(chunks), impl.JoinChunks(chunks)
		wantApart(t, "answers and the chunks", chunks, got, again)
		wantInts(t, "once more", again, got.Code, got.List)
		want := slices.Clone(got.List)
		scribbleWords(got.List)
		if !sameChunks(wholeChunks(chunks), whole) {
			t.Fatalf("%v became %v", whole, wholeChunks(chunks))
		}
		for _, chunk := range chunks {
			scribbleWords(chunk)
		}
		wantInts(t, "the chunks were written into", again, got.Code, want)
	}
}

// The chunks are pieces of one list, which the answer is not.
func TestChunksThatShareMemory(t *testing.T) {
	all := roomy(countedWords(40))
	for _, chunks := range [][][]int64{{all[:20]}, {all[:20], all[20:]}, {all[5:9], all[:7], all[5:9]}, {all[:1], all[1:2], all[2:3]}} {
		want := slices.Concat(chunks...)
		got := impl.JoinChunks(chunks)
		wantInts(t, "pieces of one list", got, impl.OK, want)
		wantApart(t, "the list and the answer", all, got)
		scribbleWords(got.List)
		if !slices.Equal(all, countedWords(40)) {
			t.Fatalf("the words became %v", all)
		}
	}
}

// caughtCases have plain pools and words, right and with each code.
func caughtCases() []struct {
	plain impl.Plain
	words []int64
} {
	type caught = struct {
		plain impl.Plain
		words []int64
	}
	d := roomyDelta()
	other := copyDelta(d)
	other.To = (other.To + 1) % 65521
	fault := copyDelta(d)
	fault.Steps = stepsOf(1, 44, 0, 0)
	return []caught{
		{roomyPlain(), roomyWords()}, {roomyPlain(), packed(deltaWith(signed(roomyPlain()), signed(roomyPlain()), roomyPlain().Vols, nil))},
		{otherPlain(), roomyWords()}, {roomyPlain(), packed(other)}, {roomyPlain(), packed(fault)},
		{roomyPlain(), roomyWords()[:3]}, {roomyPlain(), slices.Repeat([]int64{-1}, 9)}, {roomyPlain(), make([]int64, 301)},
		{impl.Plain{Blocks: 25}, roomyWords()}, {impl.Plain{}, packed(deltaWith(signed(impl.Plain{}), signed(impl.Plain{}), nil, nil))},
	}
}

func TestCatchUpChangesNoArgument(t *testing.T) {
	codes := map[int64]int{}
	for _, c := range caughtCases() {
		p, words := c.plain, roomy(c.words)
		p.Vols, p.Cells, p.Shares = roomy(p.Vols), roomy(p.Cells), roomy(p.Shares)
		wholeP, wholeW := wholePlain(p), slices.Clone(words[:cap(words)])
		got, again := impl.CatchUp(p, words), impl.CatchUp(p, words)
		wantApart(t, "answers and arguments", p, words, got, again)
		wantSamePlain(t, got, again)
		scribblePlain(got.Plain)
		if !samePlain(wholePlain(p), wholeP) || !slices.Equal(words[:cap(words)], wholeW) {
			t.Fatalf("%v, %v became %v, %v", wholeP, wholeW, wholePlain(p), words[:cap(words)])
		}
		want := copyPlain(again.Plain)
		scribblePlain(p)
		scribbleWords(words)
		if !samePlain(again.Plain, want) {
			t.Fatalf("what is written into the arguments is in the answer: %v, want %v", again.Plain, want)
		}
		codes[got.Code]++
	}
	if codes[impl.OK] != 3 || codes[impl.ErrSum] != 2 || codes[impl.ErrForm] != 1 || codes[impl.ErrText] != 1 || codes[impl.ErrRange] != 2 || codes[impl.ErrMany] != 1 {
		t.Errorf("the codes %v", codes)
	}
}

// Words that are changed a little, and numbers of any size and sign, beside plain pools with faults and without.
func TestCatchUpByAnyWords(t *testing.T) {
	x := &dice{state: 147}
	codes := map[int64]int{}
	plains := append(faultyPlains(), soundPlains()...)
	for range 6000 {
		a := anyPlain(x, 24)
		words := impl.PackDelta(impl.DeltaOf(a, anyPlain(x, 24)).Delta).List
		if x.upTo(3) > 0 {
			words = changedWords(x, words)
		}
		if x.upTo(9) == 0 && len(words) > 0 {
			words[x.upTo(int64(len(words)))] = badNumbers(0, 65535)[x.upTo(6)]
		}
		codes[wantCaught(t, "any words", a, words)]++
		p := plains[x.upTo(int64(len(plains)))]
		if p.code != impl.OK {
			wantPlainCode(t, p.name, impl.CatchUp(p.plain, words), p.code)
		} else {
			wantCaught(t, p.name, p.plain, words)
		}
	}
	for _, code := range []int64{impl.OK, impl.ErrText, impl.ErrSum, impl.ErrRange} {
		if codes[code] < 100 {
			t.Errorf("the codes %v", codes)
		}
	}
}

// A faulty list, numbers of any size and sign: all is answered, by the code of the run, or by what the places are.
func TestAnyGapIsAnswered(t *testing.T) {
	x := &dice{state: 148}
	ends := []int64{math.MinInt64, math.MinInt64 + 1, -1 << 32, -1, 0, 1, 2, 5, 9, 24, 25, 40, 41, 1 << 32, math.MaxInt64 - 1, math.MaxInt64}
	codes := map[int64]int{}
	for range 4000 {
		list := anyEntries(x, x.upTo(12))
		if len(list) > 0 && x.upTo(3) == 0 {
			list[x.upTo(int64(len(list)))] = faultyEntries()[x.upTo(int64(len(faultyEntries())))].entry
		}
		blocks, from, to := ends[x.upTo(16)], ends[x.upTo(16)], ends[x.upTo(16)]
		if x.upTo(3) > 0 {
			blocks, from, to = x.upTo(25), x.upTo(int64(len(list))+1), x.upTo(int64(len(list))+2)
		}
		code := impl.RunEntries(blocks, list).Code
		gap, plain := impl.GapOf(blocks, list, from, to), impl.PlainAfter(blocks, list, to)
		count := int64(len(list))
		codes[gap.Code]++
		if code != impl.OK {
			wantDeltaCode(t, "any list", gap, code)
			wantPlainCode(t, "any list", plain, code)
			continue
		}
		if to < 0 || to > count {
			wantPlainCode(t, "any place", plain, impl.ErrRange)
		} else {
			wantPlain(t, "any place", plain, 0, 0, likeOf(impl.RunEntries(blocks, list[:to]).Machine.Pool))
		}
		if from < 0 || from > to || to > count {
			wantDeltaCode(t, "any places", gap, impl.ErrRange)
		} else {
			wantDelta(t, "any places", gap, impl.DeltaOf(likeOf(impl.RunEntries(blocks, list[:from]).Machine.Pool), plain.Plain).Delta)
		}
	}
	if codes[impl.OK] < 500 || codes[impl.ErrRange] < 500 || codes[impl.ErrForm] < 100 {
		t.Errorf("the codes %v", codes)
	}
}
