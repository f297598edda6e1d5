package tests

import (
	"math"
	"slices"
	"testing"

	"loop.example/g00277/impl"
)

// logsOf has a log of each length.
func logsOf(lengths ...int64) [][]impl.Entry {
	var logs [][]impl.Entry
	for _, n := range lengths {
		logs = append(logs, logUpTo(n))
	}
	return logs
}

func wantBest(t *testing.T, name string, lasts, lengths []int64, best int64) {
	t.Helper()
	wantInt(t, name, impl.BestLog(lasts, logsOf(lengths...)), impl.OK, best)
}

func TestBestLogCodes(t *testing.T) {
	many := func(n int64) []int64 { return make([]int64, n) }
	for n := range int64(8) {
		for m := range int64(8) {
			got := impl.BestLog(many(n), logsOf(many(m)...))
			switch {
			case n != m:
				wantInt(t, "not as many", got, impl.ErrForm, 0)
			case n == 0:
				wantInt(t, "none", got, impl.ErrNone, 0)
			default:
				wantInt(t, "as many", got, impl.OK, 0)
			}
		}
	}
	wantInt(t, "nil of both", impl.BestLog(nil, nil), impl.ErrNone, 0)
	wantInt(t, "empty lists of both", impl.BestLog([]int64{}, [][]impl.Entry{}), impl.ErrNone, 0)
	wantInt(t, "nil and an empty list", impl.BestLog(nil, [][]impl.Entry{}), impl.ErrNone, 0)
	wantInt(t, "no lasts, a log", impl.BestLog(nil, logsOf(3)), impl.ErrForm, 0)
	wantInt(t, "no lasts, an empty log", impl.BestLog(nil, [][]impl.Entry{nil}), impl.ErrForm, 0)
	wantInt(t, "a last, no logs", impl.BestLog([]int64{7}, nil), impl.ErrForm, 0)
	wantInt(t, "as many lasts as entries", impl.BestLog([]int64{1, 2, 3}, logsOf(3)), impl.ErrForm, 0)
	wantInt(t, "the greatest last has no log", impl.BestLog([]int64{1, 2, 9}, logsOf(3, 3)), impl.ErrForm, 0)
	wantInt(t, "the longest log has no last", impl.BestLog([]int64{1, 2}, logsOf(1, 2, 9)), impl.ErrForm, 0)
}

func TestBestLogByHand(t *testing.T) {
	wantBest(t, "the document's", []int64{1, 2, 2}, []int64{5, 3, 4}, 2)
	wantBest(t, "one", []int64{4}, []int64{3}, 0)
	wantBest(t, "one that is empty", []int64{0}, []int64{0}, 0)
	wantBest(t, "the greatest last is the first", []int64{9, 8, 7}, []int64{1, 2, 3}, 0)
	wantBest(t, "the greatest last is between", []int64{7, 9, 8}, []int64{5, 1, 3}, 1)
	wantBest(t, "the greatest last is the last", []int64{7, 8, 9}, []int64{40, 39, 0}, 2)
	wantBest(t, "the longest is the first", []int64{5, 5, 5}, []int64{3, 2, 1}, 0)
	wantBest(t, "the longest is between", []int64{5, 5, 5}, []int64{3, 4, 1}, 1)
	wantBest(t, "the longest is the last", []int64{5, 5, 5}, []int64{3, 4, 5}, 2)
	wantBest(t, "all as good", []int64{5, 5, 5}, []int64{3, 3, 3}, 0)
	wantBest(t, "two as good behind a lesser one", []int64{4, 5, 5}, []int64{9, 3, 3}, 1)
	wantBest(t, "two as good behind a shorter one", []int64{5, 5, 5}, []int64{2, 3, 3}, 1)
	wantBest(t, "two as good with others between", []int64{5, 4, 5, 5, 6, 1, 6}, []int64{9, 9, 9, 9, 2, 9, 2}, 4)
	wantBest(t, "longer ones of lesser lasts", []int64{1, 2, 3, 2, 1}, []int64{40, 30, 0, 35, 40}, 2)
	wantBest(t, "empty ones among them", []int64{3, 3, 3, 3}, []int64{0, 0, 1, 0}, 2)
	wantBest(t, "all empty", []int64{3, 4, 4}, []int64{0, 0, 0}, 1)
	wantBest(t, "lasts below 0", []int64{-3, -1, -2}, []int64{3, 1, 2}, 1)
	wantBest(t, "0 and lasts below", []int64{-1, 0, -1}, []int64{3, 0, 2}, 1)
	wantBest(t, "all lasts below 0 and equal", []int64{-7, -7, -7}, []int64{1, 2, 2}, 1)
	wantInt(t, "nil and an empty log are as good", impl.BestLog([]int64{1, 1}, [][]impl.Entry{nil, {}}), impl.OK, 0)
	wantInt(t, "an empty log and nil are as good", impl.BestLog([]int64{1, 1}, [][]impl.Entry{{}, nil}), impl.OK, 0)
}

// Differences of these numbers leave int64, and their lower halves are in another order.
func TestBestLogOfFarLasts(t *testing.T) {
	wantBest(t, "the ends", []int64{math.MinInt64, math.MaxInt64}, []int64{9, 0}, 1)
	wantBest(t, "the ends, turned round", []int64{math.MaxInt64, math.MinInt64}, []int64{0, 9}, 0)
	wantBest(t, "the least and 1", []int64{math.MinInt64, 1}, []int64{9, 0}, 1)
	wantBest(t, "the greatest and -1", []int64{-1, math.MaxInt64}, []int64{9, 0}, 1)
	wantBest(t, "the greatest and one less", []int64{math.MaxInt64 - 1, math.MaxInt64}, []int64{9, 0}, 1)
	wantBest(t, "the least alone", []int64{math.MinInt64}, []int64{0}, 0)
	wantBest(t, "the least twice", []int64{math.MinInt64, math.MinInt64}, []int64{0, 1}, 1)
	wantBest(t, "the least and one more", []int64{math.MinInt64 + 1, math.MinInt64}, []int64{0, 1}, 0)
	wantBest(t, "above 32 bits", []int64{1 << 32, 5, 1<<32 + 1}, []int64{9, 9, 0}, 2)
}

// Neither a fault of a log nor its length is asked for.
func TestBestLogOfLogsWithFaults(t *testing.T) {
	wrong := make([]impl.Entry, 5)
	wantInt(t, "a fault", impl.BestLog([]int64{1, 1}, [][]impl.Entry{logUpTo(4), wrong}), impl.OK, 1)
	wantInt(t, "too many entries", impl.BestLog([]int64{1, 1}, [][]impl.Entry{logUpTo(40), logUpTo(41)}), impl.OK, 1)
	wantInt(t, "far too many entries", impl.BestLog([]int64{1, 1, 2}, [][]impl.Entry{logUpTo(40), make([]impl.Entry, 5000), wrong}), impl.OK, 2)
	lasts := make([]int64, 3000)
	logs := make([][]impl.Entry, 3000)
	wantInt(t, "many logs", impl.BestLog(lasts, logs), impl.OK, 0)
	logs[2000], logs[2999] = wrong, wrong
	wantInt(t, "many logs, two of them longer", impl.BestLog(lasts, logs), impl.OK, 2000)
	lasts[2999] = 1
	wantInt(t, "many logs, the last one of a greater view", impl.BestLog(lasts, logs), impl.OK, 2999)
}

// bestIn tells the best log by asking each in turn of all others.
func bestIn(lasts []int64, logs [][]impl.Entry) int64 {
	var longest int
	for i, log := range logs {
		if lasts[i] == slices.Max(lasts) {
			longest = max(longest, len(log))
		}
	}
	for i, log := range logs {
		if lasts[i] == slices.Max(lasts) && len(log) == longest {
			return int64(i)
		}
	}
	return -1
}

func TestBestLogOfManyLists(t *testing.T) {
	x := &dice{state: 888}
	seen := map[int64]int{}
	for range 30000 {
		var lasts []int64
		var logs [][]impl.Entry
		low := x.upTo(7) - 3
		for range 1 + x.upTo(7) {
			lasts = append(lasts, low+x.upTo(4))
			logs = append(logs, anyLog(x))
		}
		best := bestIn(lasts, logs)
		seen[best]++
		wantInt(t, "any logs", impl.BestLog(lasts, logs), impl.OK, best)
	}
	for at := range int64(7) {
		if seen[at] < 100 {
			t.Errorf("the one at %d was the best %d times", at, seen[at])
		}
	}
}
