package tests

import (
	"slices"
	"testing"

	"loop.example/g00277/impl"
)

// diskCalls are all functions of a disk that answer with lists, each at arguments that tell no code.
func diskCalls() map[string]func(d impl.Disk) (impl.Disk, []int64) {
	return map[string]func(d impl.Disk) (impl.Disk, []int64){
		"NewDisk":   func(d impl.Disk) (impl.Disk, []int64) { return impl.NewDisk(d.Words).Disk, nil },
		"PutWord":   func(d impl.Disk) (impl.Disk, []int64) { return impl.PutWord(d, 2, 3).Disk, nil },
		"FlushDisk": func(d impl.Disk) (impl.Disk, []int64) { return impl.FlushDisk(d).Disk, nil },
		"CrashDisk": func(d impl.Disk) (impl.Disk, []int64) { return impl.CrashDisk(d, []bool{true, false}).Disk, nil },
		"AllWords":  func(d impl.Disk) (impl.Disk, []int64) { return impl.Disk{}, impl.AllWords(d).List },
	}
}

// roomyDisk has lists with room behind their ends, where a careless append would write.
func roomyDisk() impl.Disk {
	words := append(make([]int64, 0, 80), wordsUpTo(impl.Sectors)...)
	cache := append(make([]impl.Put, 0, 16), impl.Put{At: 4, Word: 1}, impl.Put{At: 5, Word: 2}, impl.Put{At: 4, Word: 3})
	return impl.Disk{Words: words, Cache: cache}
}

func wholeOf(d impl.Disk) impl.Disk {
	return impl.Disk{Words: d.Words[:cap(d.Words)], Cache: d.Cache[:cap(d.Cache)]}
}

// scribble writes over all of the lists, and over the room behind them.
func scribble(d impl.Disk, list []int64) {
	for _, words := range [][]int64{d.Words[:cap(d.Words)], list[:cap(list)]} {
		for i := range words {
			words[i] = -77
		}
	}
	for i := range d.Cache[:cap(d.Cache)] {
		d.Cache[:cap(d.Cache)][i] = impl.Put{At: -77, Word: -77}
	}
}

func TestDiskCallsChangeNoArgument(t *testing.T) {
	for name, call := range diskCalls() {
		d := roomyDisk()
		ahead := copyDisk(wholeOf(d))
		call(d)
		if !sameDisk(wholeOf(d), ahead) {
			t.Errorf("%s changed its argument: %v", name, wholeOf(d))
		}
	}
}

func TestDiskReadsChangeNoArgument(t *testing.T) {
	d := roomyDisk()
	ahead := copyDisk(wholeOf(d))
	impl.DiskFault(d)
	impl.WordAt(d, 4)
	impl.PutWord(d, 64, 0)
	picks := []bool{true, false, true, true}
	impl.CrashDisk(d, picks)
	if !sameDisk(wholeOf(d), ahead) || !slices.Equal(picks, []bool{true, false, true, true}) {
		t.Errorf("changed: %v, %v", wholeOf(d), picks)
	}
}

func TestFaultyDisksAreNotChanged(t *testing.T) {
	for _, c := range faultyDisks() {
		ahead := copyDisk(c.disk)
		for _, call := range diskCalls() {
			call(c.disk)
		}
		impl.DiskFault(c.disk)
		impl.WordAt(c.disk, 0)
		if !sameDisk(c.disk, ahead) {
			t.Errorf("%s: changed", c.name)
		}
	}
}

func TestDiskAnswersShareNoMemory(t *testing.T) {
	for name, call := range diskCalls() {
		d := roomyDisk()
		ahead := copyDisk(wholeOf(d))
		scribble(call(d))
		if !sameDisk(wholeOf(d), ahead) {
			t.Errorf("%s: what is written into its answer is in its argument", name)
		}
		got, list := call(d)
		want, wantList := copyDisk(got), slices.Clone(list)
		scribble(d, nil)
		if !sameDisk(got, want) || !slices.Equal(list, wantList) {
			t.Errorf("%s: what is written into its argument is in its answer", name)
		}
	}
}

func TestDiskAnswersHangOnArgumentsAlone(t *testing.T) {
	for name, call := range diskCalls() {
		first, firstList := call(roomyDisk())
		want, wantList := copyDisk(first), slices.Clone(firstList)
		scribble(first, firstList)
		got, list := call(roomyDisk())
		if !sameDisk(got, want) || !slices.Equal(list, wantList) {
			t.Errorf("%s: got %v, %v, where it was %v, %v", name, got, list, want, wantList)
		}
	}
}

func TestAnEmptyListIsAsNil(t *testing.T) {
	none, empty := diskWith(), diskWith()
	empty.Cache = []impl.Put{}
	for name, call := range diskCalls() {
		a, aList := call(none)
		b, bList := call(empty)
		if !sameDisk(a, b) || !slices.Equal(aList, bList) {
			t.Errorf("%s: an empty cache is not as none", name)
		}
	}
	wantDisk(t, "NewDisk of an empty list", impl.NewDisk([]int64{}), impl.NewDisk(nil).Disk.Words, nil)
}
