package tests

import (
	"math"
	"math/big"
	"slices"
	"testing"

	"loop.example/g00277/impl"
)

// bigSum tells the sum by numbers without bounds: what they leave is never below 0.
func bigSum(words []int64) int64 {
	h, m := big.NewInt(9), big.NewInt(65521)
	for _, word := range words {
		left := new(big.Int).Mod(big.NewInt(word), m)
		h.Mul(h, big.NewInt(263)).Add(h, left).Add(h, big.NewInt(1)).Mod(h, m)
	}
	return h.Int64()
}

// recordLine is how a record of this number stands in a journal.
func recordLine(number int64, words ...int64) []int64 {
	sum := bigSum(append([]int64{number}, words...))
	return append([]int64{int64(len(words)), sum}, words...)
}

func journalLine(records ...[]int64) []int64 {
	var line []int64
	for i, record := range records {
		line = append(line, recordLine(int64(i), record...)...)
	}
	return line
}

// journalDisk has the records at the beginning, and behind them these words.
func journalDisk(t *testing.T, records [][]int64, behind ...int64) impl.Disk {
	t.Helper()
	got := impl.NewDisk(append(journalLine(records...), behind...))
	if got.Code != impl.OK {
		t.Fatalf("no disk of %v and %v: %d", records, behind, got.Code)
	}
	return got.Disk
}

func sameRecords(a, b [][]int64) bool {
	return slices.EqualFunc(a, b, slices.Equal[[]int64])
}

func copyRecords(records [][]int64) [][]int64 {
	var out [][]int64
	for _, record := range records {
		out = append(out, slices.Clone(record))
	}
	return out
}

// wantScan holds Used against the records: it is all of these and what stands ahead of them.
func wantScan(t *testing.T, name string, d impl.Disk, records ...[]int64) {
	t.Helper()
	got := impl.ScanJournal(d)
	used := int64(len(journalLine(records...)))
	if got.Code != impl.OK || got.Used != used || !sameRecords(got.Records, records) {
		t.Errorf("%s: got %v, want used %d, records %v", name, got, used, records)
	}
	wantInt(t, name+": RoomOf", impl.RoomOf(d), impl.OK, max(impl.Sectors-used-2, 0))
}

func wantScanCode(t *testing.T, name string, got impl.RecordsResult, code int64) {
	t.Helper()
	if got.Code != code || got.Used != 0 || len(got.Records) != 0 {
		t.Errorf("%s: got %v, want the code %d and nothing else", name, got, code)
	}
}

// recordsOf are as many records as lengths, each of so many words, all unlike each other.
func recordsOf(lengths ...int) [][]int64 {
	var out [][]int64
	for i, n := range lengths {
		record := make([]int64, n)
		for j := range n {
			record[j] = int64(100*(i+1) + j)
		}
		out = append(out, record)
	}
	return out
}

func appendAll(t *testing.T, d impl.Disk, records ...[]int64) impl.Disk {
	t.Helper()
	for i, record := range records {
		got := impl.AppendJournal(d, record)
		if got.Code != impl.OK {
			t.Fatalf("record %d, %v: code %d", i, record, got.Code)
		}
		d = got.Disk
	}
	return d
}

func TestSumWordsByHand(t *testing.T) {
	for _, c := range []struct {
		name  string
		words []int64
		want  int64
	}{
		{"no words", nil, 9},
		{"an empty list", []int64{}, 9},
		{"1", []int64{1}, 2369},
		{"0", []int64{0}, 2368},
		{"0, 1", []int64{0, 1}, (2368*263 + 2) % 65521},
		{"1, 0", []int64{1, 0}, (2369*263 + 1) % 65521},
		{"65520, what comes round", []int64{65520}, 2367},
		{"65521 is as 0", []int64{65521}, 2368},
		{"65535 is as 14", []int64{65535}, 2382},
		{"-1 is as 65520", []int64{-1}, 2367},
		{"-65520 is as 1", []int64{-65520}, 2369},
		{"-65521 is as 0", []int64{-65521}, 2368},
	} {
		if got := impl.SumWords(c.words); got != c.want {
			t.Errorf("%s: got %d, want %d", c.name, got, c.want)
		}
	}
}

func TestSumWordsOfAnySizeAndSign(t *testing.T) {
	sizes := []int64{math.MinInt64, math.MinInt64 + 1, -1 << 32, -65522, -65521, -2, 0, 65519, 65522, 1 << 32, math.MaxInt64 - 1, math.MaxInt64}
	for _, a := range sizes {
		for _, b := range sizes {
			if got, want := impl.SumWords([]int64{a, b}), bigSum([]int64{a, b}); got != want {
				t.Errorf("%d, %d: got %d, want %d", a, b, got, want)
			}
		}
	}
	long := slices.Repeat(sizes, 5000)
	if got, want := impl.SumWords(long), bigSum(long); got != want {
		t.Errorf("%d words: got %d, want %d", len(long), got, want)
	}
}

type recordCase struct {
	name  string
	words []int64
	code  int64
}

func recordCases() []recordCase {
	eight := recordsOf(8)[0]
	return []recordCase{
		{"nil", nil, impl.ErrMany},
		{"an empty list", []int64{}, impl.ErrMany},
		{"9 words", wordsUpTo(9), impl.ErrMany},
		{"100000 words", make([]int64, 100000), impl.ErrMany},
		{"9 words, one wrong", append([]int64{-1}, eight...), impl.ErrMany},
		{"-1", []int64{-1}, impl.ErrRange},
		{"65536", []int64{65536}, impl.ErrRange},
		{"the least", []int64{math.MinInt64}, impl.ErrRange},
		{"the greatest", []int64{math.MaxInt64}, impl.ErrRange},
		{"8 words, the first wrong", append([]int64{-1}, eight[1:]...), impl.ErrRange},
		{"8 words, the last wrong", append(slices.Clone(eight[:7]), 65536), impl.ErrRange},
		{"0", []int64{0}, impl.OK},
		{"65535", []int64{65535}, impl.OK},
		{"two words", []int64{65535, 0}, impl.OK},
		{"8 words", eight, impl.OK},
		{"8 words 0", make([]int64, 8), impl.OK},
	}
}

func TestRecordFault(t *testing.T) {
	for _, c := range recordCases() {
		if got := impl.RecordFault(c.words); got != c.code {
			t.Errorf("%s: got %d, want %d", c.name, got, c.code)
		}
	}
}

// A wrong record on a wrong disk tells the fault of the disk.
func TestJournalAsksTheDiskFirst(t *testing.T) {
	for _, c := range faultyDisks() {
		wantScanCode(t, c.name+": ScanJournal", impl.ScanJournal(c.disk), c.code)
		wantDiskCode(t, c.name+": AppendJournal", impl.AppendJournal(c.disk, []int64{1}), c.code)
		wantDiskCode(t, c.name+": AppendJournal of no words", impl.AppendJournal(c.disk, nil), c.code)
		wantDiskCode(t, c.name+": AppendJournal of -1", impl.AppendJournal(c.disk, []int64{-1}), c.code)
		wantDiskCode(t, c.name+": CommitJournal", impl.CommitJournal(c.disk), c.code)
		wantInt(t, c.name+": RoomOf", impl.RoomOf(c.disk), c.code, 0)
	}
}

// A wrong record tells its own fault, on a disk with room and on one with none.
func TestAppendJournalAsksTheRecordNext(t *testing.T) {
	roomy := impl.NewDisk(nil).Disk
	full := journalDisk(t, recordsOf(8, 8, 8, 8, 8, 8, 2))
	busy := impl.Disk{Words: make([]int64, 64), Cache: putsUpTo(200)}
	for _, c := range recordCases() {
		if c.code == impl.OK {
			if got := impl.AppendJournal(roomy, c.words); got.Code != impl.OK {
				t.Errorf("%s: got %v", c.name, got)
			}
			wantDiskCode(t, c.name+" on a full disk", impl.AppendJournal(full, c.words), impl.ErrFull)
			wantDiskCode(t, c.name+" with a full cache", impl.AppendJournal(busy, c.words), impl.ErrFull)
			continue
		}
		for _, d := range []impl.Disk{roomy, full, busy} {
			wantDiskCode(t, c.name, impl.AppendJournal(d, c.words), c.code)
		}
	}
}

func TestScanOfNoRecords(t *testing.T) {
	wantScan(t, "a new disk", impl.NewDisk(nil).Disk)
	for _, c := range soundDisks() {
		wantScan(t, c.name, c.disk)
	}
}

func TestScanTellsWhatStandsThere(t *testing.T) {
	for _, lengths := range [][]int{{1}, {8}, {2, 1}, {1, 8, 3}, {8, 8, 8, 8, 8, 8}} {
		records := recordsOf(lengths...)
		wantScan(t, "words alone", journalDisk(t, records), records...)
	}
	edges := [][]int64{{0}, {65535}, {0, 0, 0, 0, 0, 0, 0, 0}, {65535, 0}}
	wantScan(t, "the edges of words", journalDisk(t, edges), edges...)
}

// The scan reads what is in the cache as well, and there what was put last.
func TestScanReadsTheCache(t *testing.T) {
	records := recordsOf(2, 3)
	d := impl.Disk{Words: make([]int64, 64)}
	for i, word := range journalLine(records...) {
		d.Cache = append(d.Cache, impl.Put{At: int64(i), Word: 9}, impl.Put{At: int64(i), Word: word})
	}
	wantScan(t, "all in the cache", d, records...)
	spoilt := journalDisk(t, records)
	spoilt.Cache = []impl.Put{{At: 4, Word: 0}}
	wantScan(t, "a record that the cache covers", spoilt, records[0])
}

func TestScanIsNotStoppedByWordsOfARecord(t *testing.T) {
	records := [][]int64{{0, 0, 0}, recordLine(1, 7), {0}, recordLine(0, 7)}
	wantScan(t, "words that look like an end or a record", journalDisk(t, records), records...)
}

func TestScanFillsTheDisk(t *testing.T) {
	records := recordsOf(8, 8, 8, 8, 8, 8, 2)
	wantScan(t, "to the last place", journalDisk(t, records), records...)
	small := recordsOf(slices.Repeat([]int{1}, 21)...)
	wantScan(t, "21 small ones, one place left", journalDisk(t, small), small...)
	for _, word := range []int64{0, 1, 8, 65535} {
		wantScan(t, "21 small ones and a word", journalDisk(t, small, word), small...)
	}
}

func TestScanStopsAtWhatIsNoRecord(t *testing.T) {
	first := recordsOf(2)
	wrong := recordLine(1, 50, 51)
	wrong[1]++
	for _, c := range []struct {
		name   string
		behind []int64
	}{
		{"a record of the number 0 again", recordLine(0, 50, 51)},
		{"a record of the number 2", recordLine(2, 50, 51)},
		{"the same record again", recordLine(0, first[0]...)},
		{"a sum that is 1 too great", wrong},
		{"a sum that is 0", []int64{2, 0, 50, 51}},
		{"a word that is another one", append(recordLine(1, 50, 51)[:3], 52)},
		{"words in another order", append(recordLine(1, 50, 51)[:2], 51, 50)},
		{"a sum without the number", []int64{1, bigSum([]int64{50}), 50}},
		{"a sum of the words, then the number", []int64{1, bigSum([]int64{50, 1}), 50}},
		{"a sum with the count in it", []int64{1, bigSum([]int64{1, 1, 50}), 50}},
		{"a count of 0, its sum right", recordLine(1)},
		{"a count of 9, its sum right", recordLine(1, 1, 2, 3, 4, 5, 6, 7, 8, 9)},
		{"a count of 50, its sum right", recordLine(1, make([]int64, 50)...)},
		{"a count of 65535", []int64{65535, 1, 2, 3}},
		{"a record too late by a word", append([]int64{0}, recordLine(1, 50)...)},
	} {
		wantScan(t, c.name, journalDisk(t, first, c.behind...), first[0])
		more := append(slices.Clone(c.behind), recordLine(1, 60)...)
		wantScan(t, c.name+", and a right one behind it", journalDisk(t, first, more...), first[0])
	}
}

// A record whose words would go over the end is none, whatever its sum.
func TestScanStopsAtTheEndOfTheDisk(t *testing.T) {
	for _, lengths := range [][]int{{8, 8, 8, 8, 8, 8}, {8, 8, 8, 8, 8, 8, 1}, {8, 8, 8, 8, 8, 7}} {
		records := recordsOf(lengths...)
		rest := int64(64 - len(journalLine(records...)))
		for count := max(rest-1, 1); count <= 8; count++ {
			line := recordLine(int64(len(records)), make([]int64, count)...)
			over := append(journalLine(records...), line[:min(int(rest), len(line))]...)
			wantScan(t, "over the end", impl.NewDisk(over).Disk, records...)
		}
	}
}

func TestAppendPutsWordByWord(t *testing.T) {
	d := impl.NewDisk(wordsUpTo(64)).Disk
	got := impl.AppendJournal(d, []int64{5, 6})
	sum := bigSum([]int64{0, 5, 6})
	puts := []impl.Put{{At: 0, Word: 2}, {At: 1, Word: sum}, {At: 2, Word: 5}, {At: 3, Word: 6}, {At: 4, Word: 0}}
	wantDisk(t, "the first record", got, wordsUpTo(64), puts)
	next := impl.AppendJournal(got.Disk, []int64{65535})
	more := []impl.Put{{At: 4, Word: 1}, {At: 5, Word: bigSum([]int64{1, 65535})}, {At: 6, Word: 65535}, {At: 7, Word: 0}}
	wantDisk(t, "the second, behind the cache", next, wordsUpTo(64), append(puts, more...))
	flushed := impl.CommitJournal(got.Disk)
	wantDisk(t, "the second, behind a commit", impl.AppendJournal(flushed.Disk, []int64{65535}), flushed.Disk.Words, more)
}

// The last record ends at the last place: there is no place for a word 0.
func TestAppendUpToTheLastPlace(t *testing.T) {
	records := recordsOf(8, 8, 8, 8, 8, 8)
	d := journalDisk(t, records)
	wantInt(t, "room for 2", impl.RoomOf(d), impl.OK, 2)
	wantDiskCode(t, "3 words", impl.AppendJournal(d, []int64{1, 2, 3}), impl.ErrFull)
	got := impl.AppendJournal(d, []int64{1, 2})
	sum := bigSum([]int64{6, 1, 2})
	puts := []impl.Put{{At: 60, Word: 2}, {At: 61, Word: sum}, {At: 62, Word: 1}, {At: 63, Word: 2}}
	wantDisk(t, "2 words", got, d.Words, puts)
	wantScan(t, "2 words", got.Disk, append(records, []int64{1, 2})...)
	wantDiskCode(t, "behind the end", impl.AppendJournal(got.Disk, []int64{1}), impl.ErrFull)
	one := impl.AppendJournal(d, []int64{1})
	puts = []impl.Put{{At: 60, Word: 1}, {At: 61, Word: bigSum([]int64{6, 1})}, {At: 62, Word: 1}, {At: 63, Word: 0}}
	wantDisk(t, "1 word, and a place for 0", one, d.Words, puts)
}

func TestRoomIsWhatMayBeAppended(t *testing.T) {
	for _, c := range []struct {
		lengths []int
		room    int64
	}{
		{nil, 62},
		{[]int{1}, 59},
		{[]int{8, 8, 8, 8, 8, 4}, 6},
		{[]int{8, 8, 8, 8, 8, 3}, 7},
		{[]int{8, 8, 8, 8, 8, 2}, 8},
		{[]int{8, 8, 8, 8, 8, 7, 1}, 0},
		{[]int{8, 8, 8, 8, 8, 7, 2}, 0},
		{[]int{8, 8, 8, 8, 8, 7}, 3},
		{[]int{8, 8, 8, 8, 8, 8, 1}, 0},
		{[]int{8, 8, 8, 8, 8, 8, 2}, 0},
		{[]int{8, 8, 8, 8, 8, 5, 1}, 2},
		{[]int{8, 8, 8, 8, 8, 6, 1}, 1},
	} {
		records := recordsOf(c.lengths...)
		d := journalDisk(t, records)
		wantInt(t, "RoomOf", impl.RoomOf(d), impl.OK, c.room)
		for n := 1; n <= 8; n++ {
			got := impl.AppendJournal(d, wordsUpTo(n))
			if int64(n) > c.room {
				wantDiskCode(t, "one that has no room", got, impl.ErrFull)
				continue
			}
			wantScan(t, "one that has room", got.Disk, append(copyRecords(records), wordsUpTo(n))...)
		}
	}
}

// putsBehind are n puts at the last place, which no record of these tests comes to.
func putsBehind(n int) []impl.Put {
	return slices.Repeat([]impl.Put{{At: 63, Word: 7}}, n)
}

func TestAppendCountsTheCache(t *testing.T) {
	for n := 1; n <= 8; n++ {
		record := wordsUpTo(n)
		d := impl.Disk{Words: make([]int64, 64), Cache: putsBehind(197 - n)}
		got := impl.AppendJournal(d, record)
		if got.Code != impl.OK || len(got.Disk.Cache) != 200 || impl.DiskFault(got.Disk) != impl.OK {
			t.Errorf("%d words and just so many in the cache: code %d, %d in the cache", n, got.Code, len(got.Disk.Cache))
		}
		wantScan(t, "just so many in the cache", got.Disk, record)
		d.Cache = putsBehind(198 - n)
		wantDiskCode(t, "one more in the cache", impl.AppendJournal(d, record), impl.ErrFull)
		wantDiskCode(t, "all in the cache", impl.AppendJournal(impl.Disk{Words: d.Words, Cache: putsBehind(200)}, record), impl.ErrFull)
	}
}

// The cache is asked for the word 0 also where that has no place.
func TestAppendCountsTheCacheAtTheEnd(t *testing.T) {
	d := journalDisk(t, recordsOf(8, 8, 8, 8, 8, 8))
	d.Cache = putsBehind(195)
	got := impl.AppendJournal(d, []int64{1, 2})
	if got.Code != impl.OK || len(got.Disk.Cache) != 199 {
		t.Errorf("195 in the cache: code %d, %d in the cache", got.Code, len(got.Disk.Cache))
	}
	d.Cache = putsBehind(196)
	wantDiskCode(t, "196 in the cache", impl.AppendJournal(d, []int64{1, 2}), impl.ErrFull)
}

// What stood there ahead, an elder record of the right number even, is not told behind a new one.
func TestAppendedIsTheLastRecord(t *testing.T) {
	for n := 1; n <= 8; n++ {
		record := wordsUpTo(n)
		behind := append(make([]int64, 2+n), recordLine(2, 80, 81)...)
		d := journalDisk(t, recordsOf(3), behind...)
		ahead := impl.ScanJournal(d).Records
		got := impl.AppendJournal(d, record)
		wantScan(t, "ahead of an elder record", got.Disk, append(ahead, record)...)
		wantScan(t, "the same, committed", impl.CommitJournal(got.Disk).Disk, append(ahead, record)...)
	}
}

func TestAppendOverWordsOfAnyKind(t *testing.T) {
	d := impl.Disk{Words: wordsUpTo(64)}
	records := recordsOf(1, 8, 3, 8, 2)
	wantScan(t, "over words", appendAll(t, d, records...), records...)
	d = impl.Disk{Words: slices.Repeat([]int64{1}, 64), Cache: putsUpTo(64)}
	wantScan(t, "over a cache", appendAll(t, d, records...), records...)
}

// picksFor are nothing, all, and many others of so many puts.
func picksFor(n int) [][]bool {
	all := [][]bool{nil, make([]bool, n), slices.Repeat([]bool{true}, n), slices.Repeat([]bool{true}, n+9)}
	for i := range n {
		but, alone := slices.Repeat([]bool{true}, n), make([]bool, n)
		but[i], alone[i] = false, true
		all = append(all, but, alone, slices.Repeat([]bool{true}, i))
	}
	x := &dice{state: 7}
	for range 40 {
		some := make([]bool, n)
		for i := range some {
			some[i] = x.upTo(2) == 0
		}
		all = append(all, some)
	}
	return all
}

func TestCommittedIsThereBehindACrash(t *testing.T) {
	stay, lost := recordsOf(2, 8, 1), [][]int64{{7, 7}, {8}, {9, 9, 9}}
	elder := append(make([]int64, 9), recordLine(4, 1, 2)...)
	d := journalDisk(t, stay[:1], elder...)
	d = impl.CommitJournal(appendAll(t, d, stay[1:]...)).Disk
	if len(d.Cache) != 0 {
		t.Errorf("a commit leaves %v in the cache", d.Cache)
	}
	open := appendAll(t, d, lost...)
	for _, picks := range picksFor(len(open.Cache)) {
		crashed := impl.ScanJournal(impl.CrashDisk(open, picks).Disk)
		if len(crashed.Records) < 3 || !sameRecords(crashed.Records[:3], stay) {
			t.Errorf("picks %v: got %v, want %v ahead", picks, crashed.Records, stay)
		}
	}
	wantScan(t, "nothing is picked", impl.CrashDisk(open, nil).Disk, stay...)
	wantScan(t, "all is picked", impl.CrashDisk(open, slices.Repeat([]bool{true}, 40)).Disk, append(stay, lost...)...)
	wantScan(t, "all but the last word of the first", impl.CrashDisk(open, []bool{true, true, true}).Disk, stay...)
}

func TestCommitIsAFlush(t *testing.T) {
	for _, c := range soundDisks() {
		flushed := impl.FlushDisk(c.disk).Disk
		wantDisk(t, c.name, impl.CommitJournal(c.disk), flushed.Words, flushed.Cache)
	}
}

// A walk of appends, commits and crashes beside the list of what must be told.
func TestJournalWalk(t *testing.T) {
	x := &dice{state: 3}
	for range 60 {
		d, records, stayed := impl.Disk{Words: wordsUpTo(64)}, [][]int64(nil), 0
		for range 40 {
			switch x.upTo(6) {
			case 0:
				d, stayed = impl.CommitJournal(d).Disk, len(records)
			case 1:
				d, records = impl.CrashDisk(d, nil).Disk, records[:stayed]
			default:
				record := make([]int64, 1+x.upTo(8))
				for i := range record {
					record[i] = x.upTo(65536)
				}
				room, cached := impl.RoomOf(d).Value, len(d.Cache)
				got := impl.AppendJournal(d, record)
				if int64(len(record)) > room || cached > 197-len(record) {
					wantDiskCode(t, "no room", got, impl.ErrFull)
					continue
				}
				d, records = got.Disk, append(records[:len(records):len(records)], record)
			}
			wantScan(t, "walk", d, records...)
		}
	}
}
