package tests

import (
	"math"
	"slices"
	"testing"

	"loop.example/g00277/impl"
)

// roomyLog has n entries, and room behind them.
func roomyLog(n int64) []impl.Entry {
	return append(make([]impl.Entry, 0, 60), logUpTo(n)...)
}

func wholeLog(log []impl.Entry) []impl.Entry {
	return slices.Clone(log[:cap(log)])
}

func roomyLogs() [][]impl.Entry {
	return append(make([][]impl.Entry, 0, 9), roomyLog(5), roomyLog(0), roomyLog(3), nil, roomyLog(40))
}

func wholeLogs(logs [][]impl.Entry) [][]impl.Entry {
	var list [][]impl.Entry
	for _, log := range logs[:cap(logs)] {
		list = append(list, wholeLog(log))
	}
	return list
}

func sameLogs(a, b [][]impl.Entry) bool {
	return slices.EqualFunc(a, b, slices.Equal[[]impl.Entry])
}

func TestLogCallsChangeNoArgument(t *testing.T) {
	a, b, logs := roomyLog(40), append(roomyLog(7), otherLog(9)...), roomyLogs()
	wholeA, wholeB, whole := wholeLog(a), wholeLog(b), wholeLogs(logs)
	lasts := append(make([]int64, 0, 9), 1, 2, 2, -3, 2)
	wholeLasts := slices.Clone(lasts[:cap(lasts)])
	if impl.LogFault(a) != impl.OK || impl.LogFault(b) != impl.OK || impl.CommonOf(a, b) != 7 || impl.CommonOf(b, a) != 7 {
		t.Fatal("the logs have a fault, or not 7 entries in common")
	}
	impl.IsBeginning(a, b)
	impl.IsBeginning(a[:7], b)
	impl.CommonOf(a, a)
	wantInt(t, "BestLog", impl.BestLog(lasts, logs), impl.OK, 4)
	impl.BestLog(lasts[:2], logs)
	impl.BestLog(lasts, logs[:2])
	if !slices.Equal(wholeLog(a), wholeA) || !slices.Equal(wholeLog(b), wholeB) {
		t.Error("a log is changed")
	}
	if !sameLogs(wholeLogs(logs), whole) || !slices.Equal(lasts[:cap(lasts)], wholeLasts) {
		t.Error("the lists of BestLog are changed")
	}
}

func TestLogCodesChangeNoArgument(t *testing.T) {
	for _, c := range faultyEntries() {
		log := logBut(41, 3, c.entry)
		ahead := slices.Clone(log)
		impl.LogFault(log)
		impl.LogFault(log[:4])
		impl.EntryFault(log[3])
		impl.PackEntry(log[3])
		impl.CommonOf(log, log[1:])
		impl.IsBeginning(log[:5], log)
		impl.BestLog([]int64{1, 1}, [][]impl.Entry{log, log[:3]})
		if !slices.Equal(log, ahead) {
			t.Errorf("%s: changed", c.name)
		}
	}
}

func TestEntryWordsAreNotChangedNorShared(t *testing.T) {
	for _, c := range soundEntries() {
		words := append(make([]int64, 0, 12), wordsOfEntry(c.entry)...)
		whole := slices.Clone(words[:cap(words)])
		read := impl.UnpackEntry(words)
		impl.UnpackEntry(words[:4])
		impl.UnpackEntry(words[:6])
		if !slices.Equal(words[:cap(words)], whole) {
			t.Fatalf("the words are changed to %v", words[:cap(words)])
		}
		scribbleWords(words)
		if read != (impl.EntryResult{Entry: c.entry}) {
			t.Fatalf("what is written into the words is in the answer %v", read)
		}
		told, again := impl.PackEntry(c.entry), impl.PackEntry(c.entry)
		scribbleWords(told.List)
		wantInts(t, "two answers", again, impl.OK, wordsOfEntry(c.entry))
		wantInts(t, "once more", impl.PackEntry(c.entry), impl.OK, wordsOfEntry(c.entry))
	}
}

// A list that cannot be read leaves nothing behind that the next call would tell.
func TestEntryAnswersHangOnArgumentsAlone(t *testing.T) {
	x := writeEntry(5)
	for _, words := range append(farWords(), []int64{1, 1, 513, 2, 256}, []int64{1, 1, 0, 0, 0}) {
		ahead := slices.Clone(words)
		wantUnread(t, "far words", words)
		if !slices.Equal(words, ahead) {
			t.Errorf("%v are changed to %v", ahead, words)
		}
		wantEntry(t, "behind far words", wordsOfEntry(x), x)
		wantUnread(t, "far words once more", words)
	}
	for range 50 {
		wantInts(t, "once more", impl.PackEntry(x), impl.OK, wordsOfEntry(x))
		wantInt(t, "once more", impl.BestLog([]int64{1, 2, 2}, logsOf(5, 3, 4)), impl.OK, 2)
		wantCommon(t, "once more", logUpTo(9), logBut(9, 4, x), 4)
	}
}

// Entries of any numbers, in logs of any length, are answered with a code or without one.
func TestLogsAreAnsweredWhateverTheyAre(t *testing.T) {
	ends := []int64{math.MinInt64, math.MinInt64 + 1, -1, 0, 1, 99, 999, 65536, math.MaxInt64 - 1, math.MaxInt64}
	var log []impl.Entry
	for i, n := range ends {
		m := ends[len(ends)-1-i]
		log = append(log, entryOf(n, m, opOf(n, m, n, m)), entryOf(m, n, opOf(m, n, m, n)), entryOf(1, 1, opOf(n, n, n, n)), entryOf(1, 1, opOf(impl.OpWrite, 1, n, m)))
	}
	for _, x := range log {
		code := impl.EntryFault(x)
		want := []int64(nil)
		if code == impl.OK {
			want = wordsOfEntry(x)
		}
		wantInts(t, "any numbers", impl.PackEntry(x), code, want)
		wantLogFault(t, "any numbers", []impl.Entry{x}, code)
	}
	for _, times := range []int{0, 1, 2, 100} {
		long := slices.Repeat(log, times)
		if code := impl.LogFault(long); (code == impl.OK) != (times == 0) || (code == impl.ErrMany) != (times > 1) {
			t.Errorf("%d times: got %d", times, code)
		}
		wantCommon(t, "any numbers", long, log, int64(min(len(long), len(log))))
	}
}
