package impl

import "slices"

const OK = 0
const ErrForm = 1
const ErrMany = 2
const ErrRange = 3
const ErrNone = 4
const ErrText = 5
const ErrSum = 6
const ErrTaken = 7
const ErrFull = 8
const ErrQuota = 9
const ErrState = 10
const Sectors = 64
const MaxWord = 65535

type Put struct {
	At   int64
	Word int64
}
type Disk struct {
	Words []int64
	Cache []Put
}
type DiskResult struct {
	Code int64
	Disk Disk
}
type IntResult struct {
	Code  int64
	Value int64
}
type IntsResult struct {
	Code int64
	List []int64
}
type BytesResult struct {
	Code  int64
	Bytes []byte
}
type TextResult struct {
	Code int64
	Text string
}

// maxCache bounds how many puts may wait for a flush.
const maxCache = 200

// sectors is an array and no slice: handed on it is copied whole, so that
// no disk can come to share its words with another.
type sectors [Sectors]int64

func isSector(at int64) bool {
	return at >= 0 && at < Sectors
}

func isWord(word int64) bool {
	return word >= 0 && word <= MaxWord
}

// sectorsOf needs at most Sectors words: its callers ask for that first.
func sectorsOf(words []int64) sectors {
	var all sectors
	for i := range len(words) {
		all[i] = words[i]
	}
	return all
}

// afterPuts goes from the first put to the last, so that of several at one
// place the last one stays.
func afterPuts(all sectors, puts []Put) sectors {
	for i := range len(puts) {
		all[puts[i].At] = puts[i].Word
	}
	return all
}

// seenOf is what is read of a disk without a fault: a read sees what a flush
// would leave.
func seenOf(d Disk) sectors {
	return afterPuts(sectorsOf(d.Words), d.Cache)
}

func pickedPuts(cache []Put, picks []bool) []Put {
	var picked []Put
	for i := range min(len(cache), len(picks)) {
		if picks[i] {
			picked = append(picked, cache[i])
		}
	}
	return picked
}

// cleanDisk may slice its array, since that is its own copy.
func cleanDisk(all sectors) DiskResult {
	return DiskResult{Disk: Disk{Words: all[:]}}
}

func DiskFault(d Disk) int64 {
	if len(d.Words) != Sectors {
		return ErrForm
	}
	if len(d.Cache) > maxCache {
		return ErrMany
	}
	for i := range Sectors {
		if !isWord(d.Words[i]) {
			return ErrRange
		}
	}
	for i := range len(d.Cache) {
		if !isSector(d.Cache[i].At) || !isWord(d.Cache[i].Word) {
			return ErrRange
		}
	}
	return OK
}

func NewDisk(words []int64) DiskResult {
	if len(words) > Sectors {
		return DiskResult{Code: ErrForm}
	}
	made := cleanDisk(sectorsOf(words))
	if code := DiskFault(made.Disk); code != OK {
		return DiskResult{Code: code}
	}
	return made
}

func PutWord(d Disk, at int64, word int64) DiskResult {
	if code := DiskFault(d); code != OK {
		return DiskResult{Code: code}
	}
	if !isSector(at) || !isWord(word) {
		return DiskResult{Code: ErrRange}
	}
	if len(d.Cache) == maxCache {
		return DiskResult{Code: ErrMany}
	}
	put := cleanDisk(sectorsOf(d.Words))
	put.Disk.Cache = slices.Concat(d.Cache, []Put{{At: at, Word: word}})
	return put
}

func WordAt(d Disk, at int64) IntResult {
	if code := DiskFault(d); code != OK {
		return IntResult{Code: code}
	}
	if !isSector(at) {
		return IntResult{Code: ErrRange}
	}
	seen := seenOf(d)
	return IntResult{Value: seen[at]}
}

func FlushDisk(d Disk) DiskResult {
	if code := DiskFault(d); code != OK {
		return DiskResult{Code: code}
	}
	return cleanDisk(seenOf(d))
}

func CrashDisk(d Disk, picks []bool) DiskResult {
	if code := DiskFault(d); code != OK {
		return DiskResult{Code: code}
	}
	return cleanDisk(afterPuts(sectorsOf(d.Words), pickedPuts(d.Cache, picks)))
}

func AllWords(d Disk) IntsResult {
	if code := DiskFault(d); code != OK {
		return IntsResult{Code: code}
	}
	seen := seenOf(d)
	return IntsResult{List: seen[:]}
}
