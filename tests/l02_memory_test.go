package tests

import (
	"slices"
	"testing"

	"loop.example/g00277/impl"
)

// roomyJournal has three records, the last one in the cache, and lists with room behind their ends.
func roomyJournal(t *testing.T) impl.Disk {
	t.Helper()
	d := journalDisk(t, recordsOf(2, 8))
	d = appendAll(t, d, recordsOf(3)...)
	return impl.Disk{
		Words: append(make([]int64, 0, 90), d.Words...),
		Cache: append(make([]impl.Put, 0, 50), d.Cache...),
	}
}

func roomyRecord() []int64 {
	return append(make([]int64, 0, 20), 41, 42, 43)
}

func TestJournalCallsChangeNoArgument(t *testing.T) {
	d, record := roomyJournal(t), roomyRecord()
	ahead, words := copyDisk(wholeOf(d)), slices.Clone(record[:cap(record)])
	impl.SumWords(record)
	impl.RecordFault(record)
	impl.ScanJournal(d)
	impl.AppendJournal(d, record)
	impl.CommitJournal(d)
	impl.RoomOf(d)
	if !sameDisk(wholeOf(d), ahead) || !slices.Equal(record[:cap(record)], words) {
		t.Errorf("changed: %v, %v", wholeOf(d), record[:cap(record)])
	}
}

func TestJournalCodesChangeNoArgument(t *testing.T) {
	disks := faultyDisks()
	disks = append(disks, diskCase{"a full cache", impl.Disk{Words: make([]int64, 64), Cache: putsUpTo(200)}, 0})
	disks = append(disks, diskCase{"a full disk", journalDisk(t, recordsOf(8, 8, 8, 8, 8, 8, 2)), 0})
	for _, c := range disks {
		ahead, record := copyDisk(c.disk), []int64{1, -1, 65536}
		impl.ScanJournal(c.disk)
		impl.AppendJournal(c.disk, record)
		impl.AppendJournal(c.disk, record[:1])
		impl.CommitJournal(c.disk)
		impl.RoomOf(c.disk)
		if !sameDisk(c.disk, ahead) || !slices.Equal(record, []int64{1, -1, 65536}) {
			t.Errorf("%s: changed", c.name)
		}
	}
}

func TestJournalDisksShareNoMemory(t *testing.T) {
	for name, call := range map[string]func(d impl.Disk, record []int64) impl.Disk{
		"AppendJournal": func(d impl.Disk, record []int64) impl.Disk { return impl.AppendJournal(d, record).Disk },
		"CommitJournal": func(d impl.Disk, record []int64) impl.Disk { return impl.CommitJournal(d).Disk },
	} {
		d, record := roomyJournal(t), roomyRecord()
		ahead := copyDisk(wholeOf(d))
		scribble(call(d, record), nil)
		if !sameDisk(wholeOf(d), ahead) || !slices.Equal(record, roomyRecord()) {
			t.Errorf("%s: what is written into its answer is in its arguments", name)
		}
		got := call(d, record)
		want := copyDisk(got)
		scribble(d, record)
		if !sameDisk(got, want) {
			t.Errorf("%s: what is written into its arguments is in its answer", name)
		}
		if again := call(roomyJournal(t), roomyRecord()); !sameDisk(again, want) {
			t.Errorf("%s: another answer at the same arguments", name)
		}
	}
}

func TestScannedRecordsShareNoMemory(t *testing.T) {
	d := roomyJournal(t)
	ahead := copyDisk(wholeOf(d))
	got := impl.ScanJournal(d).Records
	want := copyRecords(got)
	if len(got) != 3 {
		t.Fatalf("got %v", got)
	}
	scribble(d, nil)
	if !sameRecords(got, want) {
		t.Errorf("what is written into the disk is in the records: %v", got)
	}
	for i, record := range got {
		scribble(impl.Disk{}, record)
		if !sameRecords(got[i+1:], want[i+1:]) {
			t.Errorf("what is written into record %d is in those behind it: %v", i, got)
		}
	}
	d = roomyJournal(t)
	for _, record := range impl.ScanJournal(d).Records {
		scribble(impl.Disk{}, record)
	}
	if !sameDisk(wholeOf(d), ahead) || !sameRecords(impl.ScanJournal(d).Records, want) {
		t.Error("what is written into the records is in the disk")
	}
}

// The room behind a record's end is its own as well: an append to one spoils no other.
func TestRecordsGrowApart(t *testing.T) {
	got := impl.ScanJournal(roomyJournal(t)).Records
	want := copyRecords(got)
	for i := range got {
		_ = append(got[i], -5, -5, -5)
	}
	if !sameRecords(got, want) {
		t.Errorf("got %v, want %v", got, want)
	}
}
