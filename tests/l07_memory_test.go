package tests

import (
	"math"
	"slices"
	"testing"

	"loop.example/g00277/impl"
)

// otherPlain is like roomyPlain, but with volumes that are gone, new and kept, and with room behind each list.
func otherPlain() impl.Plain {
	p := roomyPlain()
	p.Vols = append(make([]impl.Vol, 0, 12), emptyVols(3, 16, 8, 2, 9, 1)...)
	p.Cells = append(make([]impl.Cell, 0, 120), cellsOf(3, 0, 10, 3, 2, 1, 8, 4, 9, 8, 15, 0)...)
	return p
}

// roomyDelta leads from roomyPlain to otherPlain, and has room behind the end of each list.
func roomyDelta() impl.Delta {
	d := impl.DeltaOf(roomyPlain(), otherPlain()).Delta
	d.Vols = append(make([]impl.Vol, 0, 12), d.Vols...)
	d.Steps = append(make([]impl.Step, 0, 150), d.Steps...)
	return d
}

func roomyWords() []int64 {
	return append(make([]int64, 0, 400), impl.PackDelta(roomyDelta()).List...)
}

// wholeDelta has what stands behind the ends of the lists as well.
func wholeDelta(d impl.Delta) impl.Delta {
	return copyDelta(deltaWith(d.From, d.To, d.Vols[:cap(d.Vols)], d.Steps[:cap(d.Steps)]))
}

func scribbleDelta(d impl.Delta) {
	for i := range d.Vols[:cap(d.Vols)] {
		d.Vols[:cap(d.Vols)][i] = impl.Vol{Id: -77, Quota: -77, Root: -77}
	}
	for i := range d.Steps[:cap(d.Steps)] {
		d.Steps[:cap(d.Steps)][i] = impl.Step{Has: true, Vol: -77, At: -77, Value: -77}
	}
}

func scribbleWords(words []int64) {
	all := words[:cap(words)]
	for i := range all {
		all[i] = -77
	}
}

func TestDeltaCallsChangeNoArgument(t *testing.T) {
	a, b, d, words := roomyPlain(), otherPlain(), roomyDelta(), roomyWords()
	wholeA, wholeB, wholeD, wholeW := wholePlain(a), wholePlain(b), wholeDelta(d), slices.Clone(words[:cap(words)])
	codes := []int64{
		impl.SignPlain(a).Code, impl.DeltaFault(d), impl.DeltaOf(a, b).Code, impl.DeltaOf(b, a).Code, impl.DeltaOf(a, a).Code,
		impl.TakeDelta(a, d).Code, impl.PackDelta(d).Code, impl.UnpackDelta(words).Code, impl.ChunkDelta(words, 3, 9).Code,
	}
	if slices.Max(codes) != impl.OK {
		t.Fatalf("the codes %v", codes)
	}
	impl.TakeDelta(b, d)
	other := d
	other.Vols = d.Vols[:1]
	impl.TakeDelta(a, other)
	impl.UnpackDelta(words[:7])
	impl.ChunkDelta(words, math.MinInt64, math.MaxInt64)
	if !samePlain(wholePlain(a), wholeA) || !samePlain(wholePlain(b), wholeB) {
		t.Errorf("the plain pools are changed to %v, %v", wholePlain(a), wholePlain(b))
	}
	if !sameDelta(wholeDelta(d), wholeD) || !slices.Equal(words[:cap(words)], wholeW) {
		t.Errorf("the delta or the words are changed to %v, %v", wholeDelta(d), words[:cap(words)])
	}
}

func TestDeltaCodesChangeNoArgument(t *testing.T) {
	for _, c := range append(faultyPlains(), soundPlains()...) {
		p, d := c.plain, threeSteps()
		ahead := copyPlain(p)
		impl.SignPlain(p)
		impl.DeltaOf(p, threeVols())
		impl.DeltaOf(threeVols(), p)
		impl.DeltaOf(p, p)
		impl.TakeDelta(p, d)
		d.From = signed(p)
		impl.TakeDelta(p, d)
		if !samePlain(p, ahead) || !slices.Equal(d.Steps, threeSteps().Steps) {
			t.Errorf("%s: changed", c.name)
		}
	}
	for _, c := range append(faultyDeltas(), soundDeltas()...) {
		ahead := copyDelta(c.delta)
		impl.DeltaFault(c.delta)
		impl.PackDelta(c.delta)
		impl.TakeDelta(threeVols(), c.delta)
		right := c.delta
		right.From = signed(threeVols())
		impl.TakeDelta(threeVols(), right)
		if !sameDelta(c.delta, ahead) {
			t.Errorf("%s: changed", c.name)
		}
	}
}

// farWords are lists of numbers that are no words of a delta, of any size and sign.
func farWords() [][]int64 {
	lists := [][]int64{nil, {}, make([]int64, 1000)}
	for _, n := range []int64{math.MinInt64, math.MinInt64 + 1, -1, 0, 1, 65535, 65536, math.MaxInt64 - 1, math.MaxInt64} {
		for _, count := range []int{1, 2, 3, 4, 5, 6, 250, 299, 300, 301} {
			lists = append(lists, slices.Repeat([]int64{n}, count))
		}
	}
	return lists
}

func TestWordsAreAnsweredWhateverTheyAre(t *testing.T) {
	for _, words := range farWords() {
		ahead := slices.Clone(words)
		got := impl.UnpackDelta(words)
		if got.Code != impl.OK {
			wantDeltaCode(t, "far words", got, got.Code)
		}
		for _, at := range []int64{math.MinInt64, -1, 0, 1, 4, 300, math.MaxInt64 - 1, math.MaxInt64} {
			for _, n := range []int64{math.MinInt64, 0, 1, 20, math.MaxInt64} {
				if chunk := impl.ChunkDelta(words, at, n); chunk.Code != impl.OK && len(chunk.List) != 0 {
					t.Errorf("ChunkDelta at %d of %d: got %v", at, n, chunk)
				}
			}
		}
		if !slices.Equal(words, ahead) {
			t.Errorf("%v are changed to %v", ahead, words)
		}
	}
}

func TestDeltaOfSharesNoMemory(t *testing.T) {
	a, b := roomyPlain(), otherPlain()
	wholeA, wholeB := wholePlain(a), wholePlain(b)
	got := impl.DeltaOf(a, b)
	want := copyDelta(got.Delta)
	scribbleDelta(got.Delta)
	if !samePlain(wholePlain(a), wholeA) || !samePlain(wholePlain(b), wholeB) {
		t.Error("what is written into its answer is in its argument")
	}
	got = impl.DeltaOf(a, b)
	scribblePlain(a)
	scribblePlain(b)
	wantDelta(t, "what is written into its argument", got, want)
	wantDelta(t, "once more", impl.DeltaOf(roomyPlain(), otherPlain()), want)
	same := roomyPlain()
	got = impl.DeltaOf(same, same)
	scribblePlain(same)
	wantDelta(t, "both the same one", got, deltaWith(signed(roomyPlain()), signed(roomyPlain()), roomyPlain().Vols, nil))
}

// With steps and without: without one the cells of the answer are just those of the plain pool.
func TestTakeDeltaSharesNoMemory(t *testing.T) {
	none := deltaWith(signed(roomyPlain()), signed(roomyPlain()), append(make([]impl.Vol, 0, 12), roomyPlain().Vols...), make([]impl.Step, 0, 9))
	for _, d := range []impl.Delta{roomyDelta(), none} {
		p, again := roomyPlain(), copyDelta(d)
		wholeP, wholeD := wholePlain(p), wholeDelta(d)
		got := impl.TakeDelta(p, d)
		want := copyPlain(got.Plain)
		scribblePlain(got.Plain)
		if got.Code != impl.OK || !samePlain(wholePlain(p), wholeP) || !sameDelta(wholeDelta(d), wholeD) {
			t.Error("what is written into its answer is in its argument")
		}
		got = impl.TakeDelta(p, d)
		scribblePlain(p)
		scribbleDelta(d)
		wantPlain(t, "what is written into its argument", got, 0, 0, want)
		wantPlain(t, "once more", impl.TakeDelta(roomyPlain(), again), 0, 0, want)
	}
}

func TestWordsShareNoMemory(t *testing.T) {
	d := roomyDelta()
	whole := wholeDelta(d)
	told := impl.PackDelta(d)
	want := slices.Clone(told.List)
	scribbleWords(told.List)
	if !sameDelta(wholeDelta(d), whole) {
		t.Error("PackDelta: what is written into its answer is in its argument")
	}
	told = impl.PackDelta(d)
	scribbleDelta(d)
	wantInts(t, "PackDelta", told, impl.OK, want)

	words := roomyWords()
	wholeW := slices.Clone(words[:cap(words)])
	read := impl.UnpackDelta(words)
	scribbleDelta(read.Delta)
	for at := range int64(len(words)) + 1 {
		for _, n := range []int64{1, 5, 20} {
			scribbleWords(impl.ChunkDelta(words, at, n).List)
		}
	}
	if !slices.Equal(words[:cap(words)], wholeW) {
		t.Error("UnpackDelta or ChunkDelta: what is written into its answer is in its argument")
	}
	read = impl.UnpackDelta(words)
	chunk := impl.ChunkDelta(words, 1, 20)
	scribbleWords(words)
	wantDelta(t, "UnpackDelta", read, roomyDelta())
	wantInts(t, "ChunkDelta", chunk, impl.OK, roomyWords()[1:])
}

func TestDeltaAnswersAreTheSameEachTime(t *testing.T) {
	a, b := sixVols(), mostCells()
	a.Blocks, a.Shares = 24, nil
	first, back := impl.DeltaOf(a, b), impl.DeltaOf(b, a)
	for range 50 {
		wantDelta(t, "once more", impl.DeltaOf(a, b), first.Delta)
		wantDelta(t, "back once more", impl.DeltaOf(b, a), back.Delta)
		wantPlain(t, "once more", impl.TakeDelta(b, back.Delta), 0, 0, a)
	}
}
