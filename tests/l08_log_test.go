package tests

import (
	"math"
	"slices"
	"testing"

	"loop.example/g00277/impl"
)

func entryOf(client, seq int64, o impl.Op) impl.Entry {
	return impl.Entry{Client: client, Seq: seq, Op: o}
}

// writeEntry is an entry without a fault, of a write that each number makes another one.
func writeEntry(n int64) impl.Entry {
	return entryOf(1+n%99, 1+n%999, opOf(impl.OpWrite, 1+n%98, n%16, n%256))
}

// logUpTo has n entries, no two alike, each without a fault.
func logUpTo(n int64) []impl.Entry {
	var log []impl.Entry
	for i := range n {
		log = append(log, writeEntry(i))
	}
	return log
}

// logBut is logUpTo with another entry at one place.
func logBut(n, at int64, x impl.Entry) []impl.Entry {
	log := logUpTo(n)
	log[at] = x
	return log
}

type entryCase struct {
	name  string
	entry impl.Entry
	code  int64
}

func boundOps() []impl.Op {
	var list []impl.Op
	for _, b := range allOpBounds() {
		for _, vol := range []int64{1, 2, 50, 98, 99} {
			for _, at := range slices.Compact([]int64{b.atLow, b.atHigh}) {
				for _, value := range slices.Compact([]int64{b.valLow, b.valHigh}) {
					list = append(list, opOf(b.kind, vol, at, value))
				}
			}
		}
	}
	return list
}

func soundEntries() []entryCase {
	var list []entryCase
	for _, o := range boundOps() {
		for _, client := range []int64{1, 2, 98, 99} {
			for _, seq := range []int64{1, 2, 99, 100, 998, 999} {
				list = append(list, entryCase{"sound", entryOf(client, seq, o), impl.OK})
			}
		}
	}
	return list
}

// faultyOps has a few operations for each code of OpFault, and for each field that can be wrong.
func faultyOps() []entryCase {
	var list []entryCase
	add := func(name string, code int64, o impl.Op) {
		list = append(list, entryCase{name, entryOf(1, 1, o), code})
	}
	for _, kind := range append(badNumbers(1, 6), -1, 255, 256, 257, 65535) {
		add("no kind", impl.ErrForm, opOf(kind, 1, 0, 0))
		add("no kind, and no Vol", impl.ErrForm, opOf(kind, 0, 0, 0))
		add("no kind, and all else wrong", impl.ErrForm, opOf(kind, 100, 16, 256))
	}
	for _, b := range allOpBounds() {
		for _, vol := range append(badNumbers(1, 99), 255, 256, 257) {
			add("no Vol", impl.ErrRange, opOf(b.kind, vol, b.atLow, b.valLow))
			add("no Vol ahead of a field that it has not", impl.ErrRange, opOf(b.kind, vol, -1, -1))
		}
		code := map[bool]int64{true: impl.ErrRange, false: impl.ErrForm}
		for _, at := range badNumbers(b.atLow, b.atHigh) {
			add("no At", code[b.hasAt], opOf(b.kind, 1, at, b.valHigh))
		}
		for _, value := range badNumbers(b.valLow, b.valHigh) {
			add("no Value", code[b.hasValue], opOf(b.kind, 99, b.atHigh, value))
			add("neither", code[b.hasAt || b.hasValue], opOf(b.kind, 99, 16, value))
		}
	}
	return list
}

// faultyNames has Clients and Seqs that are not so, with an operation that is right and with each that is not:
// theirs is the code that is told.
func faultyNames() []entryCase {
	ops := []impl.Op{{}, opOf(impl.OpWrite, 1, 2, 9), opOf(impl.OpDelete, 99, 0, 0), opOf(0, 1, 0, 0), opOf(7, 1, 0, 0), opOf(impl.OpDelete, 1, 0, 1), opOf(impl.OpRead, 1, 0, 1), opOf(impl.OpWrite, 0, 0, 0)}
	var list []entryCase
	for _, o := range ops {
		for _, client := range append(badNumbers(1, 99), -1, 101, 999) {
			list = append(list, entryCase{"Client", entryOf(client, 1, o), impl.ErrRange})
			list = append(list, entryCase{"Client, with the last Seq", entryOf(client, 999, o), impl.ErrRange})
			list = append(list, entryCase{"both", entryOf(client, client, o), impl.ErrRange})
		}
		for _, seq := range append(badNumbers(1, 999), -1, 1001) {
			list = append(list, entryCase{"Seq", entryOf(1, seq, o), impl.ErrRange})
			list = append(list, entryCase{"Seq, with the last Client", entryOf(99, seq, o), impl.ErrRange})
		}
	}
	return list
}

func faultyEntries() []entryCase {
	return append(faultyOps(), faultyNames()...)
}

func TestEntryFault(t *testing.T) {
	for _, c := range append(faultyEntries(), soundEntries()...) {
		if got := impl.EntryFault(c.entry); got != c.code {
			t.Errorf("%s: %v: got %d, want %d", c.name, c.entry, got, c.code)
		}
	}
}

func TestEntryFaultByHand(t *testing.T) {
	write := opOf(impl.OpWrite, 1, 2, 9)
	for _, c := range []entryCase{
		{"nothing", impl.Entry{}, impl.ErrRange},
		{"Client 0", entryOf(0, 1, write), impl.ErrRange},
		{"Client 1", entryOf(1, 1, write), impl.OK},
		{"Client 99", entryOf(99, 1, write), impl.OK},
		{"Client 100", entryOf(100, 1, write), impl.ErrRange},
		{"Seq 0", entryOf(1, 0, write), impl.ErrRange},
		{"Seq 999", entryOf(1, 999, write), impl.OK},
		{"Seq 1000", entryOf(1, 1000, write), impl.ErrRange},
		{"no operation", entryOf(1, 1, impl.Op{}), impl.ErrForm},
		{"a kind that is none", entryOf(99, 999, opOf(7, 1, 2, 9)), impl.ErrForm},
		{"Client ahead of a kind that is none", entryOf(100, 1, opOf(7, 1, 2, 9)), impl.ErrRange},
		{"Seq ahead of a kind that is none", entryOf(1, 1000, opOf(0, 1, 2, 9)), impl.ErrRange},
		{"a place that there is not", entryOf(1, 1, opOf(impl.OpWrite, 1, 16, 9)), impl.ErrRange},
		{"a create with an At", entryOf(1, 1, opOf(impl.OpCreate, 1, 1, 9)), impl.ErrForm},
		{"a delete with a Value", entryOf(1, 1, opOf(impl.OpDelete, 1, 0, 9)), impl.ErrForm},
		{"the ends of int64", entryOf(math.MinInt64, math.MaxInt64, opOf(math.MinInt64, math.MaxInt64, math.MinInt64, math.MaxInt64)), impl.ErrRange},
		{"the ends of int64 in the operation", entryOf(1, 1, opOf(math.MaxInt64, math.MinInt64, math.MaxInt64, math.MinInt64)), impl.ErrForm},
	} {
		if got := impl.EntryFault(c.entry); got != c.code {
			t.Errorf("%s: got %d, want %d", c.name, got, c.code)
		}
	}
}

func wantLogFault(t *testing.T, name string, log []impl.Entry, code int64) {
	t.Helper()
	if got := impl.LogFault(log); got != code {
		t.Errorf("%s: got %d, want %d", name, got, code)
	}
}

func TestLogFaultOfMany(t *testing.T) {
	if impl.MaxEntries != 40 {
		t.Errorf("there may be %d entries", impl.MaxEntries)
	}
	wantLogFault(t, "nil", nil, impl.OK)
	wantLogFault(t, "empty", []impl.Entry{}, impl.OK)
	for n := int64(1); n <= 40; n++ {
		wantLogFault(t, "as many as there may be", logUpTo(n), impl.OK)
		wantLogFault(t, "all wrong", make([]impl.Entry, n), impl.ErrRange)
		wantLogFault(t, "one entry again and again", slices.Repeat(logUpTo(1), int(n)), impl.OK)
	}
	for _, n := range []int64{41, 42, 80, 1000} {
		wantLogFault(t, "too many", logUpTo(n), impl.ErrMany)
		wantLogFault(t, "too many, all wrong", make([]impl.Entry, n), impl.ErrMany)
		wantLogFault(t, "too many ahead of the first", logBut(n, 0, impl.Entry{}), impl.ErrMany)
		wantLogFault(t, "too many ahead of a form", logBut(n, 0, entryOf(1, 1, impl.Op{})), impl.ErrMany)
		wantLogFault(t, "too many ahead of the last", logBut(n, n-1, impl.Entry{}), impl.ErrMany)
	}
}

func TestLogFaultOfEachEntry(t *testing.T) {
	for _, c := range append(faultyEntries(), soundEntries()...) {
		wantLogFault(t, c.name, []impl.Entry{c.entry}, c.code)
		for _, at := range []int64{0, 1, 20, 39} {
			wantLogFault(t, c.name, logBut(40, at, c.entry), c.code)
		}
	}
	for at := range int64(40) {
		wantLogFault(t, "at each place", logBut(40, at, impl.Entry{}), impl.ErrRange)
		wantLogFault(t, "at the end", logBut(at+1, at, entryOf(1, 1, impl.Op{})), impl.ErrForm)
	}
}

// All codes of an entry are asked ahead of the next one.
func TestLogFaultGoesEntryByEntry(t *testing.T) {
	noClient, noKind := entryOf(0, 1, opOf(impl.OpDelete, 1, 0, 0)), entryOf(1, 1, opOf(0, 1, 0, 0))
	noPlace, tooMuch := entryOf(1, 1, opOf(impl.OpRead, 1, 16, 0)), entryOf(1, 1, opOf(impl.OpDelete, 1, 0, 1))
	for _, form := range []impl.Entry{noKind, tooMuch} {
		for _, reach := range []impl.Entry{noClient, noPlace} {
			wantLogFault(t, "form ahead of range", []impl.Entry{form, reach}, impl.ErrForm)
			wantLogFault(t, "range ahead of form", []impl.Entry{reach, form}, impl.ErrRange)
			for at := range int64(39) {
				log := logBut(40, at, form)
				log[at+1] = reach
				wantLogFault(t, "form ahead of range, in the log", log, impl.ErrForm)
				log[at], log[at+1] = reach, form
				wantLogFault(t, "range ahead of form, in the log", log, impl.ErrRange)
			}
			ends := logBut(40, 0, form)
			ends[39] = reach
			wantLogFault(t, "the first one ahead of the last", ends, impl.ErrForm)
		}
	}
}
