package tests

import (
	"math"
	"slices"
	"testing"

	"loop.example/g00277/impl"
)

// wordsUpTo has n words that all differ from 0 and from each other.
func wordsUpTo(n int) []int64 {
	words := make([]int64, n)
	for i := range n {
		words[i] = int64(1000 + i)
	}
	return words
}

// putsUpTo has n puts, which come to each place several times where n is above Sectors.
func putsUpTo(n int) []impl.Put {
	puts := make([]impl.Put, n)
	for i := range n {
		puts[i] = impl.Put{At: int64(i*7) % impl.Sectors, Word: int64(2000 + i)}
	}
	return puts
}

func diskWith(puts ...impl.Put) impl.Disk {
	return impl.Disk{Words: wordsUpTo(impl.Sectors), Cache: puts}
}

func wordsBut(at int, word int64) []int64 {
	words := wordsUpTo(impl.Sectors)
	words[at] = word
	return words
}

func putsBut(n int, at int, put impl.Put) []impl.Put {
	puts := putsUpTo(n)
	puts[at] = put
	return puts
}

func copyDisk(d impl.Disk) impl.Disk {
	return impl.Disk{Words: slices.Clone(d.Words), Cache: slices.Clone(d.Cache)}
}

// sameDisk holds an empty list and nil to be the same.
func sameDisk(a, b impl.Disk) bool {
	return slices.Equal(a.Words, b.Words) && slices.Equal(a.Cache, b.Cache)
}

func wantDisk(t *testing.T, name string, got impl.DiskResult, words []int64, cache []impl.Put) {
	t.Helper()
	if got.Code != impl.OK || !sameDisk(got.Disk, impl.Disk{Words: words, Cache: cache}) {
		t.Errorf("%s: got %v, want words %v, cache %v", name, got, words, cache)
	}
}

func wantDiskCode(t *testing.T, name string, got impl.DiskResult, code int64) {
	t.Helper()
	if got.Code != code || len(got.Disk.Words) != 0 || len(got.Disk.Cache) != 0 {
		t.Errorf("%s: got %v, want the code %d and nothing else", name, got, code)
	}
}

func wantInt(t *testing.T, name string, got impl.IntResult, code int64, value int64) {
	t.Helper()
	if got != (impl.IntResult{Code: code, Value: value}) {
		t.Errorf("%s: got %v, want code %d, value %d", name, got, code, value)
	}
}

func wantInts(t *testing.T, name string, got impl.IntsResult, code int64, list []int64) {
	t.Helper()
	if got.Code != code || !slices.Equal(got.List, list) {
		t.Errorf("%s: got %v, want code %d, list %v", name, got, code, list)
	}
}

type diskCase struct {
	name string
	disk impl.Disk
	code int64
}

func faultyDisks() []diskCase {
	return []diskCase{
		{"nothing", impl.Disk{}, impl.ErrForm},
		{"no words, but a cache", impl.Disk{Cache: putsUpTo(1)}, impl.ErrForm},
		{"63 words", impl.Disk{Words: wordsUpTo(63)}, impl.ErrForm},
		{"65 words", impl.Disk{Words: wordsUpTo(65)}, impl.ErrForm},
		{"201 in the cache", diskWith(putsUpTo(201)...), impl.ErrMany},
		{"first word -1", impl.Disk{Words: wordsBut(0, -1)}, impl.ErrRange},
		{"last word -1", impl.Disk{Words: wordsBut(63, -1)}, impl.ErrRange},
		{"first word 65536", impl.Disk{Words: wordsBut(0, 65536)}, impl.ErrRange},
		{"last word 65536", impl.Disk{Words: wordsBut(63, 65536)}, impl.ErrRange},
		{"least word", impl.Disk{Words: wordsBut(5, math.MinInt64)}, impl.ErrRange},
		{"greatest word", impl.Disk{Words: wordsBut(5, math.MaxInt64)}, impl.ErrRange},
		{"put at -1", diskWith(impl.Put{At: -1, Word: 1}), impl.ErrRange},
		{"put at 64", diskWith(impl.Put{At: 64, Word: 1}), impl.ErrRange},
		{"put at the least", diskWith(impl.Put{At: math.MinInt64, Word: 1}), impl.ErrRange},
		{"put at the greatest", diskWith(impl.Put{At: math.MaxInt64, Word: 1}), impl.ErrRange},
		{"put of -1", diskWith(impl.Put{At: 1, Word: -1}), impl.ErrRange},
		{"put of 65536", diskWith(impl.Put{At: 1, Word: 65536}), impl.ErrRange},
		{"put of the greatest", diskWith(impl.Put{At: 1, Word: math.MaxInt64}), impl.ErrRange},
		{"last put of 200 at 64", diskWith(putsBut(200, 199, impl.Put{At: 64})...), impl.ErrRange},
		{"63 words ahead of 201 in the cache", impl.Disk{Words: wordsUpTo(63), Cache: putsUpTo(201)}, impl.ErrForm},
		{"65 words ahead of a wrong put", impl.Disk{Words: wordsUpTo(65), Cache: []impl.Put{{At: -1}}}, impl.ErrForm},
		{"63 words ahead of a wrong word", impl.Disk{Words: wordsBut(0, -1)[:63]}, impl.ErrForm},
		{"201 in the cache ahead of a wrong word", impl.Disk{Words: wordsBut(0, -1), Cache: putsUpTo(201)}, impl.ErrMany},
		{"201 in the cache ahead of a wrong put", diskWith(putsBut(201, 0, impl.Put{At: -1})...), impl.ErrMany},
	}
}

func soundDisks() []diskCase {
	return []diskCase{
		{"words alone", diskWith(), impl.OK},
		{"empty cache", impl.Disk{Words: wordsUpTo(64), Cache: []impl.Put{}}, impl.OK},
		{"words 0", impl.Disk{Words: make([]int64, 64)}, impl.OK},
		{"first word 65535", impl.Disk{Words: wordsBut(0, 65535)}, impl.OK},
		{"last word 65535", impl.Disk{Words: wordsBut(63, 65535)}, impl.OK},
		{"200 in the cache", diskWith(putsUpTo(200)...), impl.OK},
		{"put of 0 at 0", diskWith(impl.Put{At: 0, Word: 0}), impl.OK},
		{"put of 65535 at 63", diskWith(impl.Put{At: 63, Word: 65535}), impl.OK},
		{"one place twice", diskWith(impl.Put{At: 9, Word: 1}, impl.Put{At: 9, Word: 2}), impl.OK},
	}
}

func TestDiskFault(t *testing.T) {
	for _, c := range append(faultyDisks(), soundDisks()...) {
		if got := impl.DiskFault(c.disk); got != c.code {
			t.Errorf("%s: got %d, want %d", c.name, got, c.code)
		}
	}
}

// The other arguments are wrong as well in half of the calls: the fault of the disk is asked ahead of them.
func TestDiskFaultComesFirst(t *testing.T) {
	for _, c := range faultyDisks() {
		wantDiskCode(t, c.name+": PutWord", impl.PutWord(c.disk, 3, 4), c.code)
		wantDiskCode(t, c.name+": PutWord at -1", impl.PutWord(c.disk, -1, 65536), c.code)
		wantInt(t, c.name+": WordAt", impl.WordAt(c.disk, 3), c.code, 0)
		wantInt(t, c.name+": WordAt 64", impl.WordAt(c.disk, 64), c.code, 0)
		wantDiskCode(t, c.name+": FlushDisk", impl.FlushDisk(c.disk), c.code)
		wantDiskCode(t, c.name+": CrashDisk", impl.CrashDisk(c.disk, nil), c.code)
		wantDiskCode(t, c.name+": CrashDisk with picks", impl.CrashDisk(c.disk, make([]bool, 300)), c.code)
		wantInts(t, c.name+": AllWords", impl.AllWords(c.disk), c.code, nil)
	}
}

func TestNewDiskFillsUp(t *testing.T) {
	for _, n := range []int{0, 1, 2, 63, 64} {
		want := append(wordsUpTo(n), make([]int64, 64-n)...)
		got := impl.NewDisk(wordsUpTo(n))
		wantDisk(t, "NewDisk", got, want, nil)
		if impl.DiskFault(got.Disk) != impl.OK {
			t.Errorf("a new disk of %d words has a fault", n)
		}
	}
	wantDisk(t, "NewDisk of nil", impl.NewDisk(nil), make([]int64, 64), nil)
	wantDisk(t, "NewDisk of the edges", impl.NewDisk([]int64{0, 65535}), append([]int64{0, 65535}, make([]int64, 62)...), nil)
}

func TestNewDiskCodes(t *testing.T) {
	wantDiskCode(t, "65 words", impl.NewDisk(wordsUpTo(65)), impl.ErrForm)
	wantDiskCode(t, "1000 words", impl.NewDisk(wordsUpTo(1000)), impl.ErrForm)
	wantDiskCode(t, "65 words 0", impl.NewDisk(make([]int64, 65)), impl.ErrForm)
	wantDiskCode(t, "65 words, one wrong", impl.NewDisk(append(wordsBut(0, -1), 0)), impl.ErrForm)
	wantDiskCode(t, "65 words, the last wrong", impl.NewDisk(append(wordsUpTo(64), -1)), impl.ErrForm)
	for _, word := range []int64{-1, 65536, math.MinInt64, math.MaxInt64} {
		wantDiskCode(t, "one wrong word", impl.NewDisk([]int64{word}), impl.ErrRange)
		wantDiskCode(t, "the last word wrong", impl.NewDisk(wordsBut(63, word)), impl.ErrRange)
	}
}

func TestPutWordStandsBehindTheCache(t *testing.T) {
	d := diskWith(impl.Put{At: 3, Word: 30}, impl.Put{At: 1, Word: 10})
	for _, p := range []impl.Put{{At: 0, Word: 0}, {At: 63, Word: 65535}, {At: 3, Word: 31}} {
		got := impl.PutWord(d, p.At, p.Word)
		wantDisk(t, "PutWord", got, d.Words, []impl.Put{{At: 3, Word: 30}, {At: 1, Word: 10}, p})
		wantInt(t, "WordAt what was put", impl.WordAt(got.Disk, p.At), impl.OK, p.Word)
	}
}

func TestPutWordCodes(t *testing.T) {
	part, full := diskWith(putsUpTo(199)...), diskWith(putsUpTo(200)...)
	for _, p := range []impl.Put{
		{At: -1, Word: 0}, {At: 64, Word: 0}, {At: math.MinInt64, Word: 0}, {At: math.MaxInt64, Word: 0},
		{At: 0, Word: -1}, {At: 63, Word: 65536}, {At: 0, Word: math.MinInt64}, {At: 0, Word: math.MaxInt64},
		{At: -1, Word: 65536},
	} {
		wantDiskCode(t, "no place or no word", impl.PutWord(part, p.At, p.Word), impl.ErrRange)
		wantDiskCode(t, "the same where the cache is full", impl.PutWord(full, p.At, p.Word), impl.ErrRange)
	}
	last := impl.PutWord(part, 5, 6)
	wantDisk(t, "the 200th", last, part.Words, append(putsUpTo(199), impl.Put{At: 5, Word: 6}))
	wantDiskCode(t, "the 201st", impl.PutWord(last.Disk, 5, 6), impl.ErrMany)
	wantDiskCode(t, "the 201st at the edges", impl.PutWord(full, 63, 65535), impl.ErrMany)
}

func TestWordAt(t *testing.T) {
	d := diskWith(impl.Put{At: 0, Word: 7}, impl.Put{At: 63, Word: 0}, impl.Put{At: 8, Word: 65535})
	for at, want := range map[int64]int64{0: 7, 63: 0, 8: 65535, 1: 1001, 62: 1062} {
		wantInt(t, "WordAt", impl.WordAt(d, at), impl.OK, want)
	}
	for _, at := range []int64{-1, 64, math.MinInt64, math.MaxInt64} {
		wantInt(t, "WordAt no place", impl.WordAt(d, at), impl.ErrRange, 0)
	}
}

func TestTheLastPutIsReadAndStays(t *testing.T) {
	d := diskWith(impl.Put{At: 4, Word: 1}, impl.Put{At: 5, Word: 2}, impl.Put{At: 4, Word: 3})
	want := wordsBut(4, 3)
	want[5] = 2
	wantInt(t, "WordAt 4", impl.WordAt(d, 4), impl.OK, 3)
	wantInts(t, "AllWords", impl.AllWords(d), impl.OK, want)
	flushed := impl.FlushDisk(d)
	wantDisk(t, "FlushDisk", flushed, want, nil)
	wantDisk(t, "a crash behind a flush", impl.CrashDisk(flushed.Disk, nil), want, nil)
	wantDisk(t, "a flush of what is flushed", impl.FlushDisk(flushed.Disk), want, nil)
}

func TestFlushOfAFullCache(t *testing.T) {
	d := diskWith(putsUpTo(200)...)
	want := wordsUpTo(64)
	for _, p := range putsUpTo(200) {
		want[p.At] = p.Word
	}
	wantDisk(t, "FlushDisk", impl.FlushDisk(d), want, nil)
	wantInts(t, "AllWords", impl.AllWords(d), impl.OK, want)
}

func TestCrashDiskPicks(t *testing.T) {
	d := diskWith(impl.Put{At: 4, Word: 1}, impl.Put{At: 5, Word: 2}, impl.Put{At: 4, Word: 3})
	for _, c := range []struct {
		name  string
		picks []bool
		four  int64
		five  int64
	}{
		{"no picks", nil, 1004, 1005},
		{"empty picks", []bool{}, 1004, 1005},
		{"none picked", []bool{false, false, false}, 1004, 1005},
		{"too few, the earlier of two", []bool{true}, 1, 1005},
		{"too few, both ahead", []bool{true, true}, 1, 2},
		{"too few, just the second", []bool{false, true}, 1004, 2},
		{"the earlier of two alone", []bool{true, false, false}, 1, 1005},
		{"the later of two alone", []bool{false, false, true}, 3, 1005},
		{"both of two", []bool{true, false, true}, 3, 1005},
		{"all", []bool{true, true, true}, 3, 2},
		{"more than there are, all", []bool{true, true, true, true, true}, 3, 2},
		{"more than there are, none of these", []bool{false, false, false, true, true}, 1004, 1005},
	} {
		want := wordsBut(4, c.four)
		want[5] = c.five
		wantDisk(t, c.name, impl.CrashDisk(d, c.picks), want, nil)
	}
	wantDisk(t, "picks for an empty cache", impl.CrashDisk(diskWith(), []bool{true, true}), wordsUpTo(64), nil)
	wantDisk(t, "300 picks for 200", impl.CrashDisk(diskWith(putsUpTo(200)...), slices.Repeat([]bool{true}, 300)), impl.FlushDisk(diskWith(putsUpTo(200)...)).Disk.Words, nil)
}

// dice tells the same numbers in each run.
type dice struct{ state uint64 }

func (x *dice) upTo(n int64) int64 {
	x.state = x.state*6364136223846793005 + 1442695040888963407
	return int64(x.state>>33) % n
}

// A walk of puts, flushes and crashes beside a table of what must be read and what must have stayed.
func TestDiskWalk(t *testing.T) {
	x := &dice{state: 1}
	d := impl.NewDisk(nil).Disk
	stayed := make([]int64, impl.Sectors)
	var waits []impl.Put
	for step := range 3000 {
		switch k := x.upTo(40); {
		case k == 0:
			d, stayed, waits = impl.FlushDisk(d).Disk, laid(stayed, waits, nil), nil
		case k == 1:
			picks := make([]bool, x.upTo(int64(len(waits))+3))
			for i := range picks {
				picks[i] = x.upTo(2) == 0
			}
			d, stayed, waits = impl.CrashDisk(d, picks).Disk, laid(stayed, waits, &picks), nil
		case len(waits) < 200:
			p := impl.Put{At: x.upTo(impl.Sectors), Word: x.upTo(impl.MaxWord + 1)}
			d, waits = impl.PutWord(d, p.At, p.Word).Disk, append(waits, p)
		}
		if !sameDisk(d, impl.Disk{Words: stayed, Cache: waits}) || impl.DiskFault(d) != impl.OK {
			t.Fatalf("step %d: got %v, want words %v, cache %v", step, d, stayed, waits)
		}
		seen := laid(stayed, waits, nil)
		wantInts(t, "AllWords", impl.AllWords(d), impl.OK, seen)
		at := x.upTo(impl.Sectors)
		wantInt(t, "WordAt", impl.WordAt(d, at), impl.OK, seen[at])
	}
}

// laid is words with the puts that are picked; nil picks all of them.
func laid(words []int64, puts []impl.Put, picks *[]bool) []int64 {
	out := slices.Clone(words)
	for i, p := range puts {
		if picks == nil || i < len(*picks) && (*picks)[i] {
			out[p.At] = p.Word
		}
	}
	return out
}
