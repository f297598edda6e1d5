package tests

import (
	"math"
	"slices"
	"testing"

	"loop.example/g00277/impl"
)

// wordsOfEntry are the words of an entry without a fault.
func wordsOfEntry(x impl.Entry) []int64 {
	return []int64{x.Client, x.Seq, x.Op.Kind<<8 | x.Op.Vol, x.Op.At, x.Op.Value}
}

func wantEntry(t *testing.T, name string, words []int64, x impl.Entry) {
	t.Helper()
	if got := impl.UnpackEntry(words); got != (impl.EntryResult{Entry: x}) {
		t.Errorf("%s: %v: got %v, want %v", name, words, got, x)
	}
}

func wantUnread(t *testing.T, name string, words []int64) {
	t.Helper()
	if got := impl.UnpackEntry(words); got != (impl.EntryResult{Code: impl.ErrText}) {
		t.Errorf("%s: %v: got %v, want the code %d and nothing else", name, words, got, impl.ErrText)
	}
}

// wantBothWays asks for the words of an entry without a fault, and for the entry of these.
func wantBothWays(t *testing.T, x impl.Entry) {
	t.Helper()
	if code := impl.EntryFault(x); code != impl.OK {
		t.Fatalf("%v has the fault %d", x, code)
	}
	told := impl.PackEntry(x)
	wantInts(t, "PackEntry", told, impl.OK, wordsOfEntry(x))
	wantEntry(t, "UnpackEntry", told.List, x)
}

func TestPackEntryByHand(t *testing.T) {
	for _, c := range []struct {
		entry impl.Entry
		words []int64
	}{
		{entryOf(3, 4, opOf(impl.OpWrite, 1, 2, 9)), []int64{3, 4, 513, 2, 9}},
		{entryOf(1, 1, opOf(impl.OpCreate, 1, 0, 1)), []int64{1, 1, 257, 0, 1}},
		{entryOf(99, 999, opOf(impl.OpCreate, 99, 0, 16)), []int64{99, 999, 355, 0, 16}},
		{entryOf(1, 999, opOf(impl.OpWrite, 99, 15, 255)), []int64{1, 999, 611, 15, 255}},
		{entryOf(99, 1, opOf(impl.OpWrite, 2, 0, 0)), []int64{99, 1, 514, 0, 0}},
		{entryOf(5, 6, opOf(impl.OpDiscard, 7, 8, 0)), []int64{5, 6, 775, 8, 0}},
		{entryOf(5, 6, opOf(impl.OpRead, 7, 15, 0)), []int64{5, 6, 1031, 15, 0}},
		{entryOf(5, 6, opOf(impl.OpSnap, 7, 0, 99)), []int64{5, 6, 1287, 0, 99}},
		{entryOf(99, 999, opOf(impl.OpDelete, 99, 0, 0)), []int64{99, 999, 1635, 0, 0}},
	} {
		wantInts(t, "by hand", impl.PackEntry(c.entry), impl.OK, c.words)
		wantEntry(t, "by hand", c.words, c.entry)
	}
}

func TestPackEntryTellsTheEntryFault(t *testing.T) {
	for _, c := range faultyEntries() {
		wantInts(t, c.name, impl.PackEntry(c.entry), c.code, nil)
	}
	wantInts(t, "nothing", impl.PackEntry(impl.Entry{}), impl.ErrRange, nil)
}

func TestEntriesAreReadBack(t *testing.T) {
	for _, c := range soundEntries() {
		wantBothWays(t, c.entry)
	}
	for client := int64(1); client <= 99; client++ {
		for seq := int64(1); seq <= 999; seq += 1 + client%7 {
			wantBothWays(t, entryOf(client, seq, opOf(impl.OpDelete, 1+seq%99, 0, 0)))
		}
	}
	x := &dice{state: 8}
	for range 20000 {
		wantBothWays(t, entryOf(1+x.upTo(99), 1+x.upTo(999), anyOp(x)))
	}
}

// All operations that there are, but for some values of writes.
func TestOperationsAreReadBack(t *testing.T) {
	for _, b := range allOpBounds() {
		for vol := int64(1); vol <= 99; vol++ {
			for at := b.atLow; at <= b.atHigh; at++ {
				for value := b.valLow; value <= b.valHigh; value += 1 + b.atHigh*b.valHigh/255 {
					wantBothWays(t, entryOf(vol, 10*vol, opOf(b.kind, vol, at, value)))
				}
			}
		}
	}
}

func TestUnpackEntryOfTooFewAndTooMany(t *testing.T) {
	wantUnread(t, "no words", nil)
	wantUnread(t, "no words", []int64{})
	for _, c := range soundEntries() {
		words := wordsOfEntry(c.entry)
		for n := range 5 {
			wantUnread(t, "the last ones are gone", words[:n])
			wantUnread(t, "the first ones are gone", words[n+1:])
			wantUnread(t, "one twice", slices.Insert(slices.Clone(words), n, words[n]))
		}
		for _, more := range []int64{-1, 0, 1, 65535, 65536} {
			wantUnread(t, "one more behind", append(slices.Clone(words), more))
			wantUnread(t, "one more ahead", append([]int64{more}, words...))
		}
		wantUnread(t, "all twice", slices.Repeat(words, 2))
	}
}

// At each place of right words one stands that is no word, or that is the right one but for what wraps round.
func TestUnpackEntryOfNoWords(t *testing.T) {
	for _, c := range soundEntries() {
		words := wordsOfEntry(c.entry)
		for i, right := range words {
			wrong := slices.Clone(words)
			for _, n := range append(badNumbers(0, 65535), -right-1, right-1<<16, right+1<<16, right+1<<32, right-1<<32, right+math.MinInt64, 65535) {
				wrong[i] = n
				wantUnread(t, "no word", wrong)
			}
		}
	}
	for _, n := range []int64{math.MinInt64, -1, 0, 65535, 65536, math.MaxInt64} {
		for count := range 12 {
			wantUnread(t, "one number alone", slices.Repeat([]int64{n}, count))
		}
	}
}

func TestUnpackEntryOfNoEntry(t *testing.T) {
	for name, words := range map[string][]int64{
		"Client 0":                {0, 4, 513, 2, 9},
		"Client 100":              {100, 4, 513, 2, 9},
		"Client 65535":            {65535, 4, 513, 2, 9},
		"Seq 0":                   {3, 0, 513, 2, 9},
		"Seq 1000":                {3, 1000, 513, 2, 9},
		"Kind 0":                  {3, 4, 1, 2, 9},
		"Kind 7":                  {3, 4, 1793, 2, 9},
		"Kind 7, with nothing":    {3, 4, 1793, 0, 0},
		"Kind 255":                {3, 4, 65281, 2, 9},
		"Vol 0":                   {3, 4, 512, 2, 9},
		"Vol 100":                 {3, 4, 612, 2, 9},
		"Vol 255":                 {3, 4, 767, 2, 9},
		"neither Kind nor Vol":    {3, 4, 0, 0, 0},
		"Kind and Vol 255":        {3, 4, 65535, 2, 9},
		"At 16":                   {3, 4, 513, 16, 9},
		"At 65535":                {3, 4, 513, 65535, 9},
		"Value 256 of a write":    {3, 4, 513, 2, 256},
		"Value 65535 of a write":  {3, 4, 513, 2, 65535},
		"a create with an At":     {3, 4, 257, 1, 9},
		"a create of Quota 0":     {3, 4, 257, 0, 0},
		"a create of Quota 17":    {3, 4, 257, 0, 17},
		"a discard with a Value":  {3, 4, 769, 2, 1},
		"a discard at 16":         {3, 4, 769, 16, 0},
		"a read with a Value":     {3, 4, 1025, 2, 1},
		"a read at 16":            {3, 4, 1025, 16, 0},
		"a snapshot with an At":   {3, 4, 1281, 1, 2},
		"a snapshot with an id 0": {3, 4, 1281, 0, 0},
		"a snapshot to id 100":    {3, 4, 1281, 0, 100},
		"a delete with an At":     {3, 4, 1537, 1, 0},
		"a delete with a Value":   {3, 4, 1537, 0, 1},
	} {
		wantUnread(t, name, words)
	}
}

// entryIn reads words by what each may be, and by nothing of the program.
func entryIn(words []int64) (impl.Entry, bool) {
	within := func(n, low, high int64) bool { return n >= low && n <= high }
	if len(words) != 5 || !within(words[0], 1, 99) || !within(words[1], 1, 999) {
		return impl.Entry{}, false
	}
	for _, b := range allOpBounds() {
		vol := words[2] - 256*b.kind
		if within(vol, 1, 99) && within(words[3], b.atLow, b.atHigh) && within(words[4], b.valLow, b.valHigh) {
			return entryOf(words[0], words[1], opOf(b.kind, vol, words[3], words[4])), true
		}
	}
	return impl.Entry{}, false
}

// wantReadWhere asks that words are read just where they are those of an entry, and as that one.
func wantReadWhere(t *testing.T, words []int64) bool {
	t.Helper()
	want, ok := entryIn(words)
	if !ok {
		wantUnread(t, "no entry", words)
		return false
	}
	wantEntry(t, "an entry", words, want)
	got := impl.UnpackEntry(words).Entry
	if code := impl.EntryFault(got); code != impl.OK {
		t.Errorf("%v: read as %v, which has the fault %d", words, got, code)
	}
	wantInts(t, "packed again", impl.PackEntry(got), impl.OK, words)
	return true
}

func TestUnpackEntryOfEachKindAndVol(t *testing.T) {
	for _, rest := range [][]int64{{0, 0}, {0, 1}, {0, 16}, {0, 17}, {1, 0}, {1, 1}, {15, 255}} {
		read := 0
		for both := range int64(65536) {
			if wantReadWhere(t, []int64{1, 1, both, rest[0], rest[1]}) {
				read++
			}
		}
		if read == 0 || read%99 != 0 {
			t.Errorf("%v: %d are read", rest, read)
		}
	}
}

func TestUnpackEntryOfEachWord(t *testing.T) {
	for _, c := range []struct{ at, count int64 }{{0, 99}, {1, 999}, {3, 16}, {4, 256}} {
		words := []int64{1, 1, 513, 2, 9}
		count := int64(0)
		for words[c.at] = -10; words[c.at] < 65546; words[c.at]++ {
			if wantReadWhere(t, words) {
				count++
			}
		}
		if count != c.count {
			t.Errorf("the word %d: %d are read, want %d", c.at, count, c.count)
		}
	}
}

// anyWords are words near those of an entry, or far from them.
func anyWords(x *dice) []int64 {
	if x.upTo(10) == 0 {
		return []int64{x.upTo(65536), x.upTo(65536), x.upTo(65536), x.upTo(65536), x.upTo(65536)}
	}
	words := []int64{x.upTo(104), x.upTo(1040), 256*x.upTo(8) + x.upTo(104), x.upTo(18), x.upTo(20) * x.upTo(15)}
	if x.upTo(2) == 0 {
		words[3+x.upTo(2)] = 0
	}
	if x.upTo(10) == 0 {
		words[x.upTo(5)] += []int64{65536, -65536, 1 << 32, math.MinInt64}[x.upTo(4)]
	}
	return words
}

func TestUnpackEntryOfManyWords(t *testing.T) {
	x := &dice{state: 80}
	read, told := 0, 100000
	kinds := map[int64]int{}
	for range told {
		if words := anyWords(x); wantReadWhere(t, words) {
			kinds[words[2]/256]++
			read++
		}
	}
	for kind := int64(1); kind <= 6; kind++ {
		if kinds[kind] < 100 {
			t.Errorf("the kind %d was read %d times", kind, kinds[kind])
		}
	}
	if read < 10000 || told-read < 10000 {
		t.Errorf("%d of %d are words of an entry", read, told)
	}
}
