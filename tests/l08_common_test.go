package tests

import (
	"math"
	"slices"
	"testing"

	"loop.example/g00277/impl"
)

// wantCommon asks how many entries both have in common, told either way round, and what hangs on that.
func wantCommon(t *testing.T, name string, a, b []impl.Entry, common int64) {
	t.Helper()
	if got, back := impl.CommonOf(a, b), impl.CommonOf(b, a); got != common || back != common {
		t.Fatalf("%s: %v and %v: got %d and %d, want %d", name, a, b, got, back, common)
	}
	if !slices.Equal(a[:common], b[:common]) {
		t.Fatalf("%s: %v and %v: the first %d are not the same", name, a, b, common)
	}
	if common < int64(len(a)) && common < int64(len(b)) && a[common] == b[common] {
		t.Fatalf("%s: %v and %v: those at %d are the same, too", name, a, b, common)
	}
	for _, both := range [][2][]impl.Entry{{a, b}, {b, a}} {
		one, other := both[0], both[1]
		want := len(one) <= len(other) && slices.Equal(one, other[:len(one)])
		if got := impl.IsBeginning(one, other); got != want {
			t.Fatalf("%s: IsBeginning of %v and %v: got %v, want %v", name, one, other, got, want)
		}
	}
}

func wantBeginning(t *testing.T, name string, a, b []impl.Entry, want bool) {
	t.Helper()
	if got := impl.IsBeginning(a, b); got != want {
		t.Errorf("%s: got %v, want %v", name, got, want)
	}
}

// otherLog has n entries, none of them at the place where logUpTo has the same one.
func otherLog(n int64) []impl.Entry {
	var log []impl.Entry
	for i := range n {
		log = append(log, writeEntry(i+500))
	}
	return log
}

func TestCommonOfByHand(t *testing.T) {
	one, two, three := writeEntry(1), writeEntry(2), writeEntry(3)
	log := func(list ...impl.Entry) []impl.Entry { return list }
	wantCommon(t, "both nil", nil, nil, 0)
	wantCommon(t, "nil and empty", nil, log(), 0)
	wantCommon(t, "empty and one", log(), log(one), 0)
	wantCommon(t, "one and the same", log(one), log(one), 1)
	wantCommon(t, "one and another", log(one), log(two), 0)
	wantCommon(t, "one more", log(one), log(one, two), 1)
	wantCommon(t, "the same again", log(one, one), log(one), 1)
	wantCommon(t, "the second is another", log(one, two, three), log(one, three, three), 1)
	wantCommon(t, "the first is another", log(two, two, three), log(one, two, three), 0)
	wantCommon(t, "one is gone at the beginning", log(one, two, three), log(two, three), 0)
	wantCommon(t, "one is gone between", log(one, two, three), log(one, three), 1)
	wantCommon(t, "one is gone at the end", log(one, two, three), log(one, two), 2)
	wantCommon(t, "in another order", log(one, two, three), log(one, three, two), 1)
	wantBeginning(t, "both empty", nil, nil, true)
	wantBeginning(t, "nothing of nothing", log(), nil, true)
	wantBeginning(t, "nothing of one", nil, log(one), true)
	wantBeginning(t, "one of nothing", log(one), nil, false)
	wantBeginning(t, "one of two", log(one), log(one, two), true)
	wantBeginning(t, "two of one", log(one, two), log(one), false)
	wantBeginning(t, "two of themselves", log(one, two), log(one, two), true)
	wantBeginning(t, "as many others", log(one, two), log(one, three), false)
	wantBeginning(t, "the end", log(two), log(one, two), false)
	wantBeginning(t, "fewer others", log(one, three), log(one, two, three), false)
}

func TestCommonOfBeginningsAndWhatParts(t *testing.T) {
	whole := logUpTo(40)
	for n := range int64(41) {
		wantCommon(t, "alike", whole[:n], logUpTo(n), n)
		for m := range n + 1 {
			wantCommon(t, "one a beginning of the other", whole[:m], whole[:n], m)
			wantCommon(t, "unlike from the first one on", otherLog(m), whole[:n], 0)
		}
		for at := range n {
			wantCommon(t, "one differs, what is behind it is the same", logBut(n, at, writeEntry(at+500)), whole[:n], at)
			wantCommon(t, "one differs, and the other goes on", logBut(n, at, writeEntry(at+500)), whole, at)
			wantCommon(t, "all differ from there on", slices.Concat(whole[:at], otherLog(n-at)), whole, at)
			wantCommon(t, "one is gone", slices.Delete(logUpTo(40), int(at), int(at)+1), whole, at)
			wantCommon(t, "the wrong one stands there twice", slices.Insert(logUpTo(n), int(at), writeEntry(at+500)), whole, at)
		}
	}
}

// entryChanges has for each part of an entry how it becomes another one.
func entryChanges() map[string]func(x *impl.Entry, n int64) {
	return map[string]func(x *impl.Entry, n int64){
		"Client": func(x *impl.Entry, n int64) { x.Client += n },
		"Seq":    func(x *impl.Entry, n int64) { x.Seq += n },
		"Kind":   func(x *impl.Entry, n int64) { x.Op.Kind += n },
		"Vol":    func(x *impl.Entry, n int64) { x.Op.Vol += n },
		"At":     func(x *impl.Entry, n int64) { x.Op.At += n },
		"Value":  func(x *impl.Entry, n int64) { x.Op.Value += n },
	}
}

func TestEntriesThatDifferInOnePart(t *testing.T) {
	for name, change := range entryChanges() {
		for _, n := range []int64{1, -1, 256, 1 << 16, 1 << 32, math.MinInt64} {
			for at := range int64(40) {
				log := logUpTo(40)
				change(&log[at], n)
				wantCommon(t, name, log, logUpTo(40), at)
				wantCommon(t, name+", at the end", log[:at+1], logUpTo(40), at)
				wantCommon(t, name+", of the same", log, slices.Clone(log), 40)
			}
		}
	}
	// The sums of the parts, and their words as a text, would be the same.
	wantCommon(t, "parts that changed places", []impl.Entry{entryOf(1, 2, opOf(3, 4, 5, 6))}, []impl.Entry{entryOf(2, 1, opOf(3, 4, 5, 6))}, 0)
	wantCommon(t, "At and Value", []impl.Entry{entryOf(1, 2, opOf(2, 4, 5, 6))}, []impl.Entry{entryOf(1, 2, opOf(2, 4, 6, 5))}, 0)
	wantCommon(t, "1, 11 and 11, 1", []impl.Entry{entryOf(1, 11, opOf(6, 1, 0, 0))}, []impl.Entry{entryOf(11, 1, opOf(6, 1, 0, 0))}, 0)
}

// Faults are not asked for, nor how many entries there are.
func TestCommonOfLogsWithFaults(t *testing.T) {
	for _, c := range faultyEntries() {
		wrong := []impl.Entry{c.entry, c.entry}
		wantCommon(t, c.name, wrong, wrong, 2)
		wantCommon(t, c.name, wrong, wrong[:1], 1)
		wantCommon(t, c.name, wrong, logUpTo(2), 0)
		wantCommon(t, c.name, logBut(41, 40, c.entry), logBut(41, 40, c.entry), 41)
	}
	zero := make([]impl.Entry, 5000)
	wantCommon(t, "entries that are zero, and none", zero, nil, 0)
	wantCommon(t, "entries that are zero", zero, zero[:3000], 3000)
	long := logUpTo(5000)
	wantCommon(t, "many entries", long, logUpTo(5000), 5000)
	wantCommon(t, "many entries, the last one is another", long, logBut(5000, 4999, impl.Entry{}), 4999)
	wantCommon(t, "many entries, of which 41 are alike", long, slices.Concat(long[:41], zero), 41)
}

// anyLog has few entries to choose from, so that two of them often have some in common.
func anyLog(x *dice) []impl.Entry {
	var log []impl.Entry
	unlike := 1 + x.upTo(3)
	for range x.upTo(8) {
		log = append(log, writeEntry(x.upTo(unlike)))
	}
	return log
}

func commonIn(a, b []impl.Entry) int64 {
	for n := min(len(a), len(b)); ; n-- {
		if slices.Equal(a[:n], b[:n]) {
			return int64(n)
		}
	}
}

func TestCommonOfManyPairs(t *testing.T) {
	x := &dice{state: 88}
	seen := map[int64]int{}
	for range 30000 {
		a, b := anyLog(x), anyLog(x)
		common := commonIn(a, b)
		seen[common]++
		wantCommon(t, "any two", a, b, common)
		at := x.upTo(int64(len(a)) + 1)
		wantCommon(t, "grown apart", slices.Concat(a, b), slices.Concat(a[:at], b), at+commonIn(slices.Concat(a[at:], b), b))
	}
	for n := range int64(6) {
		if seen[n] < 100 {
			t.Errorf("%d in common came %d times", n, seen[n])
		}
	}
}
