package tests

import (
	"slices"
	"testing"

	"loop.example/g00277/impl"
)

// wantApplied asks it both where no block is free and where one is.
func wantApplied(t *testing.T, name string, p impl.Plain, o impl.Op, reply, value int64, want impl.Plain) {
	t.Helper()
	wantPlain(t, name, impl.ApplyPlain(p, o, false), reply, value, want)
	wantPlain(t, name+", full", impl.ApplyPlain(p, o, true), reply, value, want)
}

// wantStays is an operation that has a Reply, full or not.
func wantStays(t *testing.T, name string, p impl.Plain, o impl.Op, reply int64) {
	t.Helper()
	wantApplied(t, name, p, o, reply, 0, p)
}

// threeVolsWith is threeVols with other volumes and cells.
func threeVolsWith(vols []impl.Vol, cells []impl.Cell) impl.Plain {
	return plainWith(6, vols, cells, 4)
}

// sixVols is what crowdedPool is like.
func sixVols() impl.Plain {
	return impl.PlainOf(crowdedPool()).Plain
}

func TestApplyPlainTellsTheOpFault(t *testing.T) {
	for _, o := range wrongOps() {
		for _, p := range []impl.Plain{threeVols(), sixVols(), mostCells(), {}} {
			wantPlainCode(t, "a wrong operation", impl.ApplyPlain(p, o, false), impl.OpFault(o))
			wantPlainCode(t, "a wrong operation, full", impl.ApplyPlain(p, o, true), impl.OpFault(o))
		}
	}
}

func TestPlainCreate(t *testing.T) {
	cells := threeVols().Cells
	wantApplied(t, "the first id", threeVols(), opOf(impl.OpCreate, 1, 0, 16), 0, 0, threeVolsWith(emptyVols(1, 16, 3, 5, 7, 3, 9, 1), cells))
	wantApplied(t, "between two", threeVols(), opOf(impl.OpCreate, 8, 0, 1), 0, 0, threeVolsWith(emptyVols(3, 5, 7, 3, 8, 1, 9, 1), cells))
	wantApplied(t, "the last id", threeVols(), opOf(impl.OpCreate, 99, 0, 7), 0, 0, threeVolsWith(emptyVols(3, 5, 7, 3, 9, 1, 99, 7), cells))
	wantApplied(t, "where there is nothing", impl.Plain{}, opOf(impl.OpCreate, 5, 0, 2), 0, 0, plainWith(0, emptyVols(5, 2), nil))
	five := mostCells()
	five.Vols, five.Cells = five.Vols[:5], five.Cells[:80]
	six := mostCells()
	six.Cells = six.Cells[:80]
	wantApplied(t, "the sixth", five, opOf(impl.OpCreate, 99, 0, 16), 0, 0, six)
	for _, v := range threeVols().Vols {
		wantStays(t, "an id that is taken", threeVols(), opOf(impl.OpCreate, v.Id, 0, 1), impl.ErrTaken)
	}
	for _, v := range mostCells().Vols {
		wantStays(t, "an id that is taken among six", mostCells(), opOf(impl.OpCreate, v.Id, 0, 1), impl.ErrTaken)
	}
	for _, id := range []int64{4, 49, 51, 97} {
		wantStays(t, "a seventh", mostCells(), opOf(impl.OpCreate, id, 0, 1), impl.ErrMany)
	}
}

// A new id that is taken, a place with nothing, a seventh volume and the like come behind that.
func TestPlainNoSuchVolume(t *testing.T) {
	for _, p := range []impl.Plain{threeVols(), sixVols(), mostCells(), {Blocks: 3}, {}} {
		for _, id := range []int64{4, 8, 49, 97} {
			for _, o := range []impl.Op{
				opOf(impl.OpWrite, id, 0, 1), opOf(impl.OpWrite, id, 15, 255), opOf(impl.OpDiscard, id, 0, 0), opOf(impl.OpDiscard, id, 5, 0),
				opOf(impl.OpRead, id, 0, 0), opOf(impl.OpRead, id, 15, 0), opOf(impl.OpSnap, id, 0, 3), opOf(impl.OpSnap, id, 0, 1),
				opOf(impl.OpSnap, id, 0, id), opOf(impl.OpSnap, id, 0, 60), opOf(impl.OpDelete, id, 0, 0),
			} {
				wantStays(t, "no such volume", p, o, impl.ErrNone)
			}
		}
	}
}

func TestPlainWrite(t *testing.T) {
	vols := threeVols().Vols
	write := func(name string, vol, at, value int64, cells ...int64) {
		t.Helper()
		o := opOf(impl.OpWrite, vol, at, value)
		wantPlain(t, name, impl.ApplyPlain(threeVols(), o, false), 0, 0, threeVolsWith(vols, cellsOf(cells...)))
		wantPlain(t, name+", full", impl.ApplyPlain(threeVols(), o, true), impl.ErrFull, 0, threeVols())
	}
	write("the first of a volume", 9, 5, 255, 3, 0, 10, 3, 1, 11, 3, 10, 13, 7, 6, 13, 7, 12, 14, 7, 15, 10, 9, 5, 255)
	write("between two", 3, 5, 0, 3, 0, 10, 3, 1, 11, 3, 5, 0, 3, 10, 13, 7, 6, 13, 7, 12, 14, 7, 15, 10)
	write("behind its last", 3, 15, 7, 3, 0, 10, 3, 1, 11, 3, 10, 13, 3, 15, 7, 7, 6, 13, 7, 12, 14, 7, 15, 10)
	write("over what it has", 3, 0, 77, 3, 0, 77, 3, 1, 11, 3, 10, 13, 7, 6, 13, 7, 12, 14, 7, 15, 10)
	write("over what it has, at the quota", 7, 12, 77, 3, 0, 10, 3, 1, 11, 3, 10, 13, 7, 6, 13, 7, 12, 77, 7, 15, 10)
	write("the same over what it has", 7, 15, 10, 3, 0, 10, 3, 1, 11, 3, 10, 13, 7, 6, 13, 7, 12, 14, 7, 15, 10)
	none := plainWith(0, emptyVols(1, 1), nil)
	wantPlain(t, "it knows nothing of blocks", impl.ApplyPlain(none, opOf(impl.OpWrite, 1, 0, 0), false), 0, 0, plainWith(0, emptyVols(1, 1), cellsOf(1, 0, 0)))
}

// At the quota a place that has no cell has ErrQuota, full or not; one that has a cell comes to SetTree.
func TestPlainQuota(t *testing.T) {
	for _, quota := range []int64{1, 2, 15, 16} {
		p := plainWith(24, emptyVols(4, 16, 5, quota, 6, 1), cellsOf(4, 0, 1, 6, 0, 1), 2)
		for at := int64(15); at > 15-quota; at-- {
			got := impl.ApplyPlain(p, opOf(impl.OpWrite, 5, at, at), false)
			if got.Code != impl.OK || got.Reply != impl.OK || len(got.Plain.Cells) != len(p.Cells)+1 {
				t.Fatalf("Quota %d, place %d: got %v", quota, at, got)
			}
			p = got.Plain
		}
		for at := range int64(16) {
			o := opOf(impl.OpWrite, 5, at, 100)
			if at <= 15-quota {
				wantStays(t, "a place with nothing at the quota", p, o, impl.ErrQuota)
				continue
			}
			wantPlain(t, "over a place, full", impl.ApplyPlain(p, o, true), impl.ErrFull, 0, p)
			over := impl.ApplyPlain(p, o, false)
			if over.Code != impl.OK || over.Reply != impl.OK || len(over.Plain.Cells) != len(p.Cells) {
				t.Errorf("Quota %d: over the place %d: got %v", quota, at, over)
			}
			wantInt(t, "over a place", impl.CellIn(over.Plain, 5, at), impl.OK, 100)
		}
		less := impl.ApplyPlain(p, opOf(impl.OpDiscard, 5, 15, 0), false).Plain
		if got := impl.ApplyPlain(less, opOf(impl.OpWrite, 5, 0, 8), false); got.Code != impl.OK || got.Reply != impl.OK {
			t.Errorf("Quota %d: one is discarded, another one is written: got %v", quota, got)
		}
		wantPlain(t, "below the quota, full", impl.ApplyPlain(less, opOf(impl.OpWrite, 5, 15, 8), true), impl.ErrFull, 0, less)
	}
}

func TestPlainDiscard(t *testing.T) {
	for i, c := range threeVols().Cells {
		want := threeVols()
		want.Cells = slices.Delete(want.Cells, i, i+1)
		wantApplied(t, "a cell", threeVols(), opOf(impl.OpDiscard, c.Vol, c.At, 0), 0, 0, want)
	}
	for at := range int64(16) {
		wantStays(t, "an empty volume", threeVols(), opOf(impl.OpDiscard, 9, at, 0), impl.ErrNone)
		if at != 6 && at != 12 && at != 15 {
			wantStays(t, "a place with nothing", threeVols(), opOf(impl.OpDiscard, 7, at, 0), impl.ErrNone)
		}
	}
	one := plainWith(1, emptyVols(9, 1), cellsOf(9, 15, 0), 1)
	wantApplied(t, "the only one, with 0", one, opOf(impl.OpDiscard, 9, 15, 0), 0, 0, plainWith(1, emptyVols(9, 1), nil, 1))
}

func TestPlainRead(t *testing.T) {
	want := map[int64]map[int64]int64{3: {0: 10, 1: 11, 10: 13}, 7: {6: 13, 12: 14, 15: 10}, 9: {}}
	for id, cells := range want {
		for at := range int64(16) {
			if value, has := cells[at]; has {
				wantApplied(t, "a cell", threeVols(), opOf(impl.OpRead, id, at, 0), 0, value, threeVols())
			} else {
				wantStays(t, "a place with nothing", threeVols(), opOf(impl.OpRead, id, at, 0), impl.ErrNone)
			}
		}
	}
	zero := plainWith(1, emptyVols(9, 1), cellsOf(9, 15, 0), 1)
	wantApplied(t, "a cell with 0", zero, opOf(impl.OpRead, 9, 15, 0), 0, 0, zero)
}

func TestPlainSnap(t *testing.T) {
	snap := func(name string, id int64, vols []impl.Vol, cells ...int64) {
		t.Helper()
		wantApplied(t, name, threeVols(), opOf(impl.OpSnap, 7, 0, id), 0, 0, threeVolsWith(vols, cellsOf(cells...)))
	}
	snap("the first id", 1, emptyVols(1, 3, 3, 5, 7, 3, 9, 1), 1, 6, 13, 1, 12, 14, 1, 15, 10, 3, 0, 10, 3, 1, 11, 3, 10, 13, 7, 6, 13, 7, 12, 14, 7, 15, 10)
	snap("ahead of it", 6, emptyVols(3, 5, 6, 3, 7, 3, 9, 1), 3, 0, 10, 3, 1, 11, 3, 10, 13, 6, 6, 13, 6, 12, 14, 6, 15, 10, 7, 6, 13, 7, 12, 14, 7, 15, 10)
	snap("behind it", 8, emptyVols(3, 5, 7, 3, 8, 3, 9, 1), 3, 0, 10, 3, 1, 11, 3, 10, 13, 7, 6, 13, 7, 12, 14, 7, 15, 10, 8, 6, 13, 8, 12, 14, 8, 15, 10)
	snap("the last id", 99, emptyVols(3, 5, 7, 3, 9, 1, 99, 3), 3, 0, 10, 3, 1, 11, 3, 10, 13, 7, 6, 13, 7, 12, 14, 7, 15, 10, 99, 6, 13, 99, 12, 14, 99, 15, 10)
	wantApplied(t, "of a volume without cells", threeVols(), opOf(impl.OpSnap, 9, 0, 4), 0, 0, threeVolsWith(emptyVols(3, 5, 4, 1, 7, 3, 9, 1), threeVols().Cells))
	five := mostCells()
	five.Vols, five.Cells = five.Vols[:5], five.Cells[:80]
	wantApplied(t, "the sixth, with 96 cells then", five, opOf(impl.OpSnap, 2, 0, 99), 0, 0, mostCells())
	for _, v := range threeVols().Vols {
		wantStays(t, "an id that is taken", threeVols(), opOf(impl.OpSnap, 3, 0, v.Id), impl.ErrTaken)
	}
	for _, v := range mostCells().Vols {
		wantStays(t, "an id that is taken among six", mostCells(), opOf(impl.OpSnap, 50, 0, v.Id), impl.ErrTaken)
		wantStays(t, "a seventh", mostCells(), opOf(impl.OpSnap, v.Id, 0, 60), impl.ErrMany)
	}
}

func TestPlainDelete(t *testing.T) {
	cells := threeVols().Cells
	wantApplied(t, "the first one", threeVols(), opOf(impl.OpDelete, 3, 0, 0), 0, 0, threeVolsWith(emptyVols(7, 3, 9, 1), cells[3:]))
	wantApplied(t, "one between", threeVols(), opOf(impl.OpDelete, 7, 0, 0), 0, 0, threeVolsWith(emptyVols(3, 5, 9, 1), cells[:3]))
	wantApplied(t, "the last one, which has nothing", threeVols(), opOf(impl.OpDelete, 9, 0, 0), 0, 0, threeVolsWith(emptyVols(3, 5, 7, 3), cells))
	for i, v := range mostCells().Vols {
		want := mostCells()
		want.Vols = slices.Delete(want.Vols, i, i+1)
		want.Cells = slices.Delete(want.Cells, 16*i, 16*i+16)
		wantApplied(t, "one of six", mostCells(), opOf(impl.OpDelete, v.Id, 0, 0), 0, 0, want)
	}
	one := plainWith(1, emptyVols(9, 1), cellsOf(9, 15, 0), 1)
	wantApplied(t, "the only one", one, opOf(impl.OpDelete, 9, 0, 0), 0, 0, plainWith(1, nil, nil, 1))
	again := impl.ApplyPlain(impl.ApplyPlain(threeVols(), opOf(impl.OpDelete, 7, 0, 0), false).Plain, opOf(impl.OpCreate, 7, 0, 3), false)
	wantPlain(t, "one that is deleted is empty once it is created again", again, 0, 0, threeVolsWith(threeVols().Vols, cells[:3]))
}

// Shares are as they were, whatever is done: none, one that is not what the cells would need, as many as Blocks.
func TestPlainSharesStay(t *testing.T) {
	for _, shares := range [][]int64{nil, {1}, {3}, {6}} {
		for _, o := range poolOps() {
			for _, full := range []bool{false, true} {
				got := impl.ApplyPlain(plainShares(6, shares...), o, full)
				if got.Code != impl.OK || got.Plain.Blocks != 6 || !slices.Equal(got.Plain.Shares, shares) {
					t.Errorf("%v with Shares %v: got %v", o, shares, got)
				}
			}
		}
	}
}
