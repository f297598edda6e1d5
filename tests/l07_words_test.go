package tests

import (
	"math"
	"slices"
	"testing"

	"loop.example/g00277/impl"
)

// packed are the words of a delta without a fault.
func packed(d impl.Delta) []int64 {
	words := []int64{d.From, d.To, int64(len(d.Vols))}
	for _, v := range d.Vols {
		words = append(words, 256*v.Id+v.Quota)
	}
	words = append(words, int64(len(d.Steps)))
	for _, s := range d.Steps {
		has := int64(0)
		if s.Has {
			has = 1
		}
		words = append(words, 512*s.Vol+2*s.At+has, s.Value)
	}
	return words
}

func TestPackDelta(t *testing.T) {
	wantInts(t, "nothing", impl.PackDelta(impl.Delta{}), impl.OK, []int64{0, 0, 0, 0})
	wantInts(t, "three steps", impl.PackDelta(threeSteps()), impl.OK, []int64{1, 2, 3, 773, 1795, 2305, 3, 1537, 10, 1544, 0, 3615, 255})
	ends := deltaWith(0, 65520, emptyVols(1, 1, 99, 16), stepsOf(0, 1, 0, 0, 1, 99, 15, 255))
	wantInts(t, "the ends", impl.PackDelta(ends), impl.OK, []int64{0, 65520, 2, 257, 25360, 2, 512, 0, 50719, 255})
	for _, c := range soundDeltas() {
		wantInts(t, c.name, impl.PackDelta(c.delta), impl.OK, packed(c.delta))
	}
	for _, c := range faultyDeltas() {
		wantInts(t, c.name, impl.PackDelta(c.delta), c.code, nil)
	}
}

func TestUnpackDelta(t *testing.T) {
	wantDelta(t, "nothing", impl.UnpackDelta([]int64{0, 0, 0, 0}), impl.Delta{})
	wantDelta(t, "three steps", impl.UnpackDelta([]int64{1, 2, 3, 773, 1795, 2305, 3, 1537, 10, 1544, 0, 3615, 255}), threeSteps())
	for _, c := range soundDeltas() {
		words := packed(c.delta)
		wantDelta(t, c.name, impl.UnpackDelta(words), c.delta)
		for n := range len(words) {
			wantDeltaCode(t, c.name+": too few", impl.UnpackDelta(words[:n]), impl.ErrText)
			wantRead(t, c.name+": the first ones are gone", words[n+1:])
		}
		for _, more := range []int64{0, 1, 257, 65535} {
			wantDeltaCode(t, c.name+": one too many", impl.UnpackDelta(append(slices.Clone(words), more)), impl.ErrText)
		}
	}
}

// deltaIn reads words strictly from the first one on: how many there are must fit the numbers that they tell.
func deltaIn(words []int64) (impl.Delta, bool) {
	n := int64(len(words))
	if n < 4 || words[2] > 6 || n < 4+words[2] {
		return impl.Delta{}, false
	}
	vols := words[2]
	steps := words[3+vols]
	if steps > 120 || n != 4+vols+2*steps {
		return impl.Delta{}, false
	}
	d := impl.Delta{From: words[0], To: words[1]}
	for _, w := range words[3 : 3+vols] {
		d.Vols = append(d.Vols, impl.Vol{Id: w >> 8, Quota: w & 255, Root: -1})
	}
	for two := range slices.Chunk(words[4+vols:], 2) {
		d.Steps = append(d.Steps, impl.Step{Has: two[0]&1 == 1, Vol: two[0] >> 9, At: two[0] >> 1 & 255, Value: two[1]})
	}
	return d, impl.DeltaFault(d) == impl.OK
}

// wantRead asks that words are read just where they are those of a delta, and as that one.
func wantRead(t *testing.T, name string, words []int64) bool {
	t.Helper()
	want, ok := deltaIn(words)
	got := impl.UnpackDelta(words)
	if !ok {
		wantDeltaCode(t, name, got, impl.ErrText)
		return false
	}
	wantDelta(t, name, got, want)
	wantInts(t, name, impl.PackDelta(got.Delta), impl.OK, words)
	return true
}

func TestUnpackDeltaOfManyWords(t *testing.T) {
	wantDeltaCode(t, "301 words", impl.UnpackDelta(make([]int64, 301)), impl.ErrMany)
	wantDeltaCode(t, "300 words", impl.UnpackDelta(make([]int64, 300)), impl.ErrText)
	wantDeltaCode(t, "301, none of them a word", impl.UnpackDelta(slices.Repeat([]int64{-1}, 301)), impl.ErrMany)
	wantDeltaCode(t, "300, none of them a word", impl.UnpackDelta(slices.Repeat([]int64{65536}, 300)), impl.ErrRange)
	wantDeltaCode(t, "no words", impl.UnpackDelta(nil), impl.ErrText)
	wantDeltaCode(t, "no words", impl.UnpackDelta([]int64{}), impl.ErrText)
	whole := packed(deltaWith(1, 2, emptyVols(1, 1, 2, 1, 3, 1, 4, 1, 5, 1, 6, 1), stepsUpTo(120)))
	if len(whole) != 250 {
		t.Fatalf("the longest one has %d words", len(whole))
	}
	wantDeltaCode(t, "a delta, and words 0 up to 300", impl.UnpackDelta(append(slices.Clone(whole), make([]int64, 50)...)), impl.ErrText)
	wantDeltaCode(t, "a delta, and words 0 up to 301", impl.UnpackDelta(append(slices.Clone(whole), make([]int64, 51)...)), impl.ErrMany)
}

// At each place of right words one stands that is no word: that is told ahead of what cannot be read.
func TestUnpackDeltaOfNoWords(t *testing.T) {
	for _, c := range soundDeltas() {
		words := packed(c.delta)
		for i := range words {
			for _, n := range badNumbers(0, 65535) {
				wrong := slices.Clone(words)
				wrong[i] = n
				wantDeltaCode(t, c.name, impl.UnpackDelta(wrong), impl.ErrRange)
				wantDeltaCode(t, c.name+", one less", impl.UnpackDelta(wrong[:i+1]), impl.ErrRange)
			}
		}
	}
	wantDeltaCode(t, "one alone", impl.UnpackDelta([]int64{math.MinInt64}), impl.ErrRange)
	wantDeltaCode(t, "the last of wrong ones", impl.UnpackDelta([]int64{65535, 65535, 65535, 65536}), impl.ErrRange)
}

func TestUnpackDeltaOfNoDelta(t *testing.T) {
	for name, words := range map[string][]int64{
		"From is no sign":                     {65521, 0, 0, 0},
		"To is no sign":                       {0, 65521, 0, 0},
		"From is the last word":               {65535, 0, 0, 0},
		"To is the last word":                 {0, 65535, 0, 0},
		"a number of Vols that is too great":  {0, 0, 1, 0},
		"a number of Vols that is too small":  {0, 0, 0, 257, 0},
		"7 Vols":                              {0, 0, 7, 257, 513, 769, 1025, 1281, 1537, 1793, 0},
		"so many Vols as there can be words":  {0, 0, 65535, 257, 0},
		"a number of Steps too great":         {0, 0, 0, 2, 513, 5},
		"a number of Steps too small":         {0, 0, 0, 0, 513, 5},
		"so many Steps as there can be words": {0, 0, 0, 65535, 513, 5},
		"a step without a Value":              {0, 0, 0, 1, 513},
		"Id 0":                                {0, 0, 1, 1, 0},
		"Id 100":                              {0, 0, 1, 25601, 0},
		"Id 255":                              {0, 0, 1, 65281, 0},
		"Quota 0":                             {0, 0, 1, 256, 0},
		"Quota 17":                            {0, 0, 1, 273, 0},
		"Quota 255":                           {0, 0, 1, 511, 0},
		"an Id twice":                         {0, 0, 2, 257, 258, 0},
		"an Id falls":                         {0, 0, 2, 513, 257, 0},
		"Vol 0 of a step":                     {0, 0, 0, 1, 1, 5},
		"Vol 100 of a step":                   {0, 0, 0, 1, 51201, 5},
		"Vol 127 of a step":                   {0, 0, 0, 1, 65025, 5},
		"the last word as a step":             {0, 0, 0, 1, 65535, 5},
		"At 16 of a step":                     {0, 0, 0, 1, 545, 5},
		"At 255 of a step":                    {0, 0, 0, 1, 1023, 5},
		"Value 256":                           {0, 0, 0, 1, 513, 256},
		"Value 65535":                         {0, 0, 0, 1, 513, 65535},
		"a Value without Has":                 {0, 0, 0, 1, 512, 5},
		"a step twice":                        {0, 0, 0, 2, 513, 5, 513, 5},
		"a place twice, without Has":          {0, 0, 0, 2, 513, 5, 512, 0},
		"a place falls":                       {0, 0, 0, 2, 515, 5, 513, 5},
		"a volume falls":                      {0, 0, 0, 2, 1025, 5, 515, 5},
	} {
		wantDeltaCode(t, name, impl.UnpackDelta(words), impl.ErrText)
	}
	wantDeltaCode(t, "121 steps", impl.UnpackDelta(packed(deltaWith(1, 2, nil, stepsUpTo(121)))), impl.ErrText)
	wantDelta(t, "a volume", impl.UnpackDelta([]int64{0, 0, 1, 257, 0}), deltaWith(0, 0, emptyVols(1, 1), nil))
	wantDelta(t, "a step", impl.UnpackDelta([]int64{65520, 65520, 0, 1, 513, 5}), deltaWith(65520, 65520, nil, stepsOf(1, 1, 0, 5)))
	wantDelta(t, "a step without Has", impl.UnpackDelta([]int64{0, 0, 0, 2, 512, 0, 515, 0}), deltaWith(0, 0, nil, stepsOf(0, 1, 0, 0, 1, 1, 1, 0)))
}

// changedWords are a few words changed, told twice or taken away.
func changedWords(x *dice, words []int64) []int64 {
	for range 1 + x.upTo(3) {
		at := x.upTo(int64(len(words)))
		switch x.upTo(4) {
		case 0:
			words[at] = x.upTo(65536)
		case 1:
			words[at] = min(max(words[at]+x.upTo(5)-2, 0), 65535)
		case 2:
			words = slices.Insert(words, int(at), words[at])
		default:
			words = slices.Delete(words, int(at), int(at)+1)
		}
	}
	return words
}

func TestUnpackDeltaOfChangedWords(t *testing.T) {
	x := &dice{state: 77}
	sound := soundDeltas()
	read, told := 0, 40000
	for range told {
		if wantRead(t, "changed words", changedWords(x, packed(sound[x.upTo(int64(len(sound)))].delta))) {
			read++
		}
	}
	if read < 1000 || told-read < 1000 {
		t.Errorf("%d of %d are words of a delta", read, told)
	}
}

func countedWords(n int) []int64 {
	words := make([]int64, n)
	for i := range words {
		words[i] = int64(1000 + i)
	}
	return words
}

func TestChunkDelta(t *testing.T) {
	for _, count := range []int{0, 1, 2, 19, 20, 21, 41, 250, 299, 300} {
		words := countedWords(count)
		for at := range count + 1 {
			for n := 1; n <= 20; n++ {
				wantInts(t, "a chunk", impl.ChunkDelta(words, int64(at), int64(n)), impl.OK, words[at:min(at+n, count)])
			}
		}
		for _, at := range append(badNumbers(0, int64(count)), -20, math.MinInt64+20, math.MaxInt64-20) {
			for _, n := range []int64{1, 20, 0, 21} {
				wantInts(t, "at is no place", impl.ChunkDelta(words, at, n), impl.ErrRange, nil)
			}
		}
		for _, n := range append(badNumbers(1, 20), -1, -20) {
			for _, at := range []int64{0, int64(count), -1} {
				wantInts(t, "n is not so", impl.ChunkDelta(words, at, n), impl.ErrRange, nil)
			}
		}
	}
	wantInts(t, "the last one has fewer", impl.ChunkDelta(countedWords(10), 8, 5), impl.OK, []int64{1008, 1009})
	wantInts(t, "the one at the end has none", impl.ChunkDelta(countedWords(10), 10, 5), impl.OK, nil)
	wantInts(t, "no words", impl.ChunkDelta(nil, 0, 1), impl.OK, nil)
}

// What the words are is not asked, but how many there are is, ahead of all else.
func TestChunkDeltaOfManyWords(t *testing.T) {
	for _, at := range []int64{0, 300, 301, 302, -1, math.MaxInt64} {
		for _, n := range []int64{1, 20, 0, 21, math.MinInt64} {
			wantInts(t, "301 words", impl.ChunkDelta(countedWords(301), at, n), impl.ErrMany, nil)
		}
	}
	far := []int64{-1, 65536, math.MinInt64, math.MaxInt64}
	wantInts(t, "numbers that are no words", impl.ChunkDelta(far, 1, 2), impl.OK, []int64{65536, math.MinInt64})
	wantInts(t, "the last of them", impl.ChunkDelta(far, 2, 20), impl.OK, []int64{math.MinInt64, math.MaxInt64})
}
