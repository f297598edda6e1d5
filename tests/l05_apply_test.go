package tests

import (
	"math"
	"slices"
	"testing"

	"loop.example/g00277/impl"
)

// wrongOps are operations with a fault, of each kind and of none.
func wrongOps() []impl.Op {
	return []impl.Op{
		{}, opOf(7, 3, 0, 0), opOf(-1, 3, 0, 0), opOf(math.MinInt64, 3, 0, 0), opOf(math.MaxInt64, 3, 0, 0),
		opOf(impl.OpCreate, 3, 0, 0), opOf(impl.OpCreate, 3, 0, 17), opOf(impl.OpCreate, 3, 1, 1), opOf(impl.OpCreate, 100, 0, 1),
		opOf(impl.OpWrite, 3, -1, 0), opOf(impl.OpWrite, 3, 16, 0), opOf(impl.OpWrite, 3, 0, -1), opOf(impl.OpWrite, 3, 0, 256),
		opOf(impl.OpWrite, 0, 0, 0), opOf(impl.OpWrite, 50, math.MaxInt64, 0), opOf(impl.OpWrite, 50, 0, math.MinInt64),
		opOf(impl.OpDiscard, 3, 16, 0), opOf(impl.OpDiscard, 3, 0, 1), opOf(impl.OpDiscard, -3, 0, 0),
		opOf(impl.OpRead, 3, -1, 0), opOf(impl.OpRead, 3, 0, -1), opOf(impl.OpRead, math.MaxInt64, 0, 0),
		opOf(impl.OpSnap, 3, 0, 0), opOf(impl.OpSnap, 3, 0, 100), opOf(impl.OpSnap, 3, -1, 4), opOf(impl.OpSnap, 50, 0, math.MaxInt64),
		opOf(impl.OpDelete, 3, 1, 0), opOf(impl.OpDelete, 3, 0, -1), opOf(impl.OpDelete, 0, 0, 0), opOf(impl.OpDelete, 100, 0, 0),
	}
}

func TestApplyOpTellsTheOpFault(t *testing.T) {
	for _, o := range wrongOps() {
		for _, p := range []impl.Pool{plainPool(), crowdedPool(), fullPool(), {}} {
			wantPoolCode(t, "a wrong operation", impl.ApplyOp(p, o), impl.OpFault(o))
		}
		if impl.OpFault(o) == impl.OK {
			t.Errorf("%v has no fault", o)
		}
	}
}

func TestCreate(t *testing.T) {
	f := plainForest()
	wantPool(t, "the first id", impl.ApplyOp(plainPool(), opOf(impl.OpCreate, 1, 0, 16)), 0, 0, poolOf(f, 1, 16, -1, 3, 5, 2, 7, 3, 4, 9, 1, -1))
	wantPool(t, "between two", impl.ApplyOp(plainPool(), opOf(impl.OpCreate, 8, 0, 1)), 0, 0, poolOf(f, 3, 5, 2, 7, 3, 4, 8, 1, -1, 9, 1, -1))
	wantPool(t, "the last id", impl.ApplyOp(plainPool(), opOf(impl.OpCreate, 99, 0, 7)), 0, 0, poolOf(f, 3, 5, 2, 7, 3, 4, 9, 1, -1, 99, 7, -1))
	wantPool(t, "in a pool with nothing", impl.ApplyOp(impl.Pool{}, opOf(impl.OpCreate, 5, 0, 2)), 0, 0, poolOf(impl.Forest{}, 5, 2, -1))
	wantPool(t, "where no block is free", impl.ApplyOp(fullPool(), opOf(impl.OpCreate, 8, 0, 2)), 0, 0, poolOf(noBlockFree(), 3, 5, 2, 7, 16, 4, 8, 2, -1, 9, 1, -1))
	five := crowdedPool()
	five.Vols = five.Vols[:5]
	want := crowdedPool()
	want.Vols[5].Quota = 3
	wantPool(t, "the sixth", impl.ApplyOp(five, opOf(impl.OpCreate, 99, 0, 3)), 0, 0, want)
	for _, v := range plainPool().Vols {
		wantPool(t, "an id that is taken", impl.ApplyOp(plainPool(), opOf(impl.OpCreate, v.Id, 0, 1)), impl.ErrTaken, 0, plainPool())
	}
	for _, v := range crowdedPool().Vols {
		wantPool(t, "an id that is taken among six", impl.ApplyOp(crowdedPool(), opOf(impl.OpCreate, v.Id, 0, 1)), impl.ErrTaken, 0, crowdedPool())
	}
	for _, id := range []int64{3, 49, 52, 97} {
		wantPool(t, "a seventh", impl.ApplyOp(crowdedPool(), opOf(impl.OpCreate, id, 0, 1)), impl.ErrMany, 0, crowdedPool())
	}
}

// Each operation but OpCreate at ids that no volume has; a new id that is taken, a place with nothing and the like come behind that.
func TestNoSuchVolume(t *testing.T) {
	for _, p := range []impl.Pool{plainPool(), crowdedPool(), fullPool(), impl.NewPool(3).Pool, {}} {
		for _, id := range []int64{4, 8, 49, 97} {
			for _, o := range []impl.Op{
				opOf(impl.OpWrite, id, 0, 1), opOf(impl.OpWrite, id, 15, 255), opOf(impl.OpDiscard, id, 0, 0), opOf(impl.OpDiscard, id, 5, 0),
				opOf(impl.OpRead, id, 0, 0), opOf(impl.OpRead, id, 15, 0), opOf(impl.OpSnap, id, 0, 3), opOf(impl.OpSnap, id, 0, 1),
				opOf(impl.OpSnap, id, 0, id), opOf(impl.OpSnap, id, 0, 60), opOf(impl.OpDelete, id, 0, 0),
			} {
				wantPool(t, "no such volume", impl.ApplyOp(p, o), impl.ErrNone, 0, p)
			}
		}
	}
}

func TestWrite(t *testing.T) {
	got := impl.ApplyOp(plainPool(), opOf(impl.OpWrite, 9, 5, 255))
	f := plainForest()
	f.Nodes[3] = leafNode(1, -1, 2, -1, -1)
	f.Nodes = append(f.Nodes, rootNode(1, -1, 3, -1, -1))
	f.Blocks[2] = impl.Block{Refs: 1, Data: 255}
	wantPool(t, "the first of a volume", got, 0, 0, poolOf(f, 3, 5, 2, 7, 3, 4, 9, 1, 6))
	f = plainForest()
	f.Nodes[0].Kids[2] = 2
	f.Blocks[2] = impl.Block{Refs: 1}
	wantPool(t, "one more", impl.ApplyOp(plainPool(), opOf(impl.OpWrite, 3, 2, 0)), 0, 0, poolOf(f, 3, 5, 2, 7, 3, 4, 9, 1, -1))
	f = plainForest()
	f.Nodes[5].Kids[0] = 2
	f.Blocks[2], f.Blocks[4] = impl.Block{Refs: 1, Data: 77}, impl.Block{}
	wantPool(t, "over what it has, at the quota", impl.ApplyOp(plainPool(), opOf(impl.OpWrite, 7, 12, 77)), 0, 0, poolOf(f, 3, 5, 2, 7, 3, 4, 9, 1, -1))
	p := crowdedPool()
	p.Forest.Nodes[3] = leafNode(1, 2, -1, -1, 0)
	p.Forest.Nodes[4].Refs = 2
	p.Forest.Nodes[1].Refs = 3
	p.Forest.Nodes = append(p.Forest.Nodes, rootNode(1, -1, 1, -1, 3))
	p.Forest.Blocks[0].Refs = 3
	p.Forest.Blocks[2] = impl.Block{Refs: 1, Data: 77}
	p.Vols[2].Root = 6
	wantPool(t, "where others have the tree", impl.ApplyOp(crowdedPool(), opOf(impl.OpWrite, 50, 12, 77)), 0, 0, p)
}

func readsOf(p impl.Pool, id int64) []impl.PoolResult {
	var all []impl.PoolResult
	for at := range int64(16) {
		r := impl.ApplyOp(p, opOf(impl.OpRead, id, at, 0))
		r.Pool = impl.Pool{}
		all = append(all, r)
	}
	return all
}

func TestQuota(t *testing.T) {
	for _, quota := range []int64{1, 2, 15, 16} {
		p := impl.ApplyOp(impl.NewPool(24).Pool, opOf(impl.OpCreate, 5, 0, quota)).Pool
		for at := int64(15); at > 15-quota; at-- {
			got := impl.ApplyOp(p, opOf(impl.OpWrite, 5, at, at))
			if got.Code != impl.OK || got.Reply != impl.OK {
				t.Fatalf("Quota %d, place %d: got %v", quota, at, got)
			}
			p = got.Pool
			wantInt(t, "UsedOf", impl.UsedOf(p, 5), impl.OK, 16-at)
		}
		for at := range int64(16) {
			got := impl.ApplyOp(p, opOf(impl.OpWrite, 5, at, 100))
			if at <= 15-quota {
				wantPool(t, "a place with nothing at the quota", got, impl.ErrQuota, 0, p)
				continue
			}
			if got.Code != impl.OK || got.Reply != impl.OK || impl.ApplyOp(got.Pool, opOf(impl.OpRead, 5, at, 0)).Value != 100 {
				t.Errorf("Quota %d: over the place %d: got %v", quota, at, got)
			}
			wantInt(t, "UsedOf", impl.UsedOf(got.Pool, 5), impl.OK, quota)
		}
		p = impl.ApplyOp(p, opOf(impl.OpDiscard, 5, 15, 0)).Pool
		got := impl.ApplyOp(p, opOf(impl.OpWrite, 5, 0, 8))
		if got.Code != impl.OK || got.Reply != impl.OK {
			t.Errorf("Quota %d: one is discarded, another one is written: got %v", quota, got)
		}
	}
}

// Each place of each volume where no block is free: nothing is written, also over what is there.
func TestNoFreeBlock(t *testing.T) {
	for at := range int64(16) {
		for _, id := range []int64{3, 7, 9} {
			want := int64(impl.ErrFull)
			if has := impl.ApplyOp(fullPool(), opOf(impl.OpRead, id, at, 0)).Reply == impl.OK; id == 3 && !has {
				want = impl.ErrQuota
			}
			wantPool(t, "no block is free", impl.ApplyOp(fullPool(), opOf(impl.OpWrite, id, at, 1)), want, 0, fullPool())
		}
		none := poolOf(impl.Forest{}, 1, 16, -1)
		wantPool(t, "there are no blocks", impl.ApplyOp(none, opOf(impl.OpWrite, 1, at, 1)), impl.ErrFull, 0, none)
	}
	freed := impl.ApplyOp(fullPool(), opOf(impl.OpDiscard, 3, 2, 0)).Pool
	got := impl.ApplyOp(freed, opOf(impl.OpWrite, 9, 0, 1))
	if got.Code != impl.OK || got.Reply != impl.OK || impl.FreeOf(got.Pool.Forest.Blocks).Value != 0 {
		t.Errorf("one block was freed: got %v", got)
	}
}

func TestDiscard(t *testing.T) {
	f := plainForest()
	f.Nodes[0].Kids[1] = -1
	f.Blocks[1] = impl.Block{}
	wantPool(t, "one of two in a leaf", impl.ApplyOp(plainPool(), opOf(impl.OpDiscard, 3, 1, 0)), 0, 0, poolOf(f, 3, 5, 2, 7, 3, 4, 9, 1, -1))
	f = plainForest()
	f.Nodes[2].Kids[2] = -1
	f.Nodes[1].Refs = 1
	wantPool(t, "a leaf that another one has", impl.ApplyOp(plainPool(), opOf(impl.OpDiscard, 3, 10, 0)), 0, 0, poolOf(f, 3, 5, 2, 7, 3, 4, 9, 1, -1))
	one := poolOf(forestOf(blocksOf(1, 4), leafNode(1, 0, -1, -1, -1), rootNode(2, 0, -1, -1, -1)), 3, 1, 1, 4, 1, 1)
	left := poolOf(forestOf(blocksOf(1, 4), leafNode(1, 0, -1, -1, -1), rootNode(1, 0, -1, -1, -1)), 3, 1, -1, 4, 1, 1)
	wantPool(t, "the last one, which another one has", impl.ApplyOp(one, opOf(impl.OpDiscard, 3, 0, 0)), 0, 0, left)
	wantPool(t, "the last one", impl.ApplyOp(left, opOf(impl.OpDiscard, 4, 0, 0)), 0, 0, poolOf(forestOf(make([]impl.Block, 1), make([]impl.Node, 2)...), 3, 1, -1, 4, 1, -1))
	for at := range int64(16) {
		wantPool(t, "an empty one", impl.ApplyOp(plainPool(), opOf(impl.OpDiscard, 9, at, 0)), impl.ErrNone, 0, plainPool())
		if at != 6 && at != 12 && at != 15 {
			wantPool(t, "a place with nothing", impl.ApplyOp(plainPool(), opOf(impl.OpDiscard, 7, at, 0)), impl.ErrNone, 0, plainPool())
		}
	}
}

func TestRead(t *testing.T) {
	want := map[int64]map[int64]int64{3: {0: 10, 1: 11, 10: 13}, 7: {6: 13, 12: 14, 15: 10}, 9: {}}
	for id, cells := range want {
		for at := range int64(16) {
			got := impl.ApplyOp(plainPool(), opOf(impl.OpRead, id, at, 0))
			if data, ok := cells[at]; ok {
				wantPool(t, "a place with a block", got, 0, data, plainPool())
			} else {
				wantPool(t, "a place with nothing", got, impl.ErrNone, 0, plainPool())
			}
		}
	}
	zero := poolOf(forestOf(blocksOf(1, 0), leafNode(1, 0, -1, -1, -1), rootNode(1, 0, -1, -1, -1)), 3, 1, 1)
	wantPool(t, "a block of 0", impl.ApplyOp(zero, opOf(impl.OpRead, 3, 0, 0)), 0, 0, zero)
}

func TestSnap(t *testing.T) {
	f := nodeBut(4, rootNode(2, -1, 1, -1, 5))
	wantPool(t, "the first id", impl.ApplyOp(plainPool(), opOf(impl.OpSnap, 7, 0, 1)), 0, 0, poolOf(f, 1, 3, 4, 3, 5, 2, 7, 3, 4, 9, 1, -1))
	wantPool(t, "ahead of it", impl.ApplyOp(plainPool(), opOf(impl.OpSnap, 7, 0, 6)), 0, 0, poolOf(f, 3, 5, 2, 6, 3, 4, 7, 3, 4, 9, 1, -1))
	wantPool(t, "behind it", impl.ApplyOp(plainPool(), opOf(impl.OpSnap, 7, 0, 8)), 0, 0, poolOf(f, 3, 5, 2, 7, 3, 4, 8, 3, 4, 9, 1, -1))
	wantPool(t, "the last id", impl.ApplyOp(plainPool(), opOf(impl.OpSnap, 7, 0, 99)), 0, 0, poolOf(f, 3, 5, 2, 7, 3, 4, 9, 1, -1, 99, 3, 4))
	wantPool(t, "of an empty one", impl.ApplyOp(plainPool(), opOf(impl.OpSnap, 9, 0, 4)), 0, 0, poolOf(plainForest(), 3, 5, 2, 4, 1, -1, 7, 3, 4, 9, 1, -1))
	full := noBlockFree()
	full.Nodes[2].Refs = 2
	wantPool(t, "where no block is free", impl.ApplyOp(fullPool(), opOf(impl.OpSnap, 3, 0, 4)), 0, 0, poolOf(full, 3, 5, 2, 4, 5, 2, 7, 16, 4, 9, 1, -1))
	five := crowdedPool()
	five.Vols = five.Vols[:5]
	want := crowdedPool()
	want.Forest.Nodes[2].Refs, want.Vols[5] = 2, impl.Vol{Id: 99, Quota: 3, Root: 2}
	wantPool(t, "the sixth", impl.ApplyOp(five, opOf(impl.OpSnap, 2, 0, 99)), 0, 0, want)
	for _, v := range plainPool().Vols {
		wantPool(t, "an id that is taken", impl.ApplyOp(plainPool(), opOf(impl.OpSnap, 3, 0, v.Id)), impl.ErrTaken, 0, plainPool())
	}
	for _, v := range crowdedPool().Vols {
		wantPool(t, "an id that is taken among six", impl.ApplyOp(crowdedPool(), opOf(impl.OpSnap, 50, 0, v.Id)), impl.ErrTaken, 0, crowdedPool())
		wantPool(t, "a seventh", impl.ApplyOp(crowdedPool(), opOf(impl.OpSnap, v.Id, 0, 60)), impl.ErrMany, 0, crowdedPool())
	}
}

func TestDelete(t *testing.T) {
	f := impl.DropTree(plainForest(), 2).Forest
	wantPool(t, "the first one", impl.ApplyOp(plainPool(), opOf(impl.OpDelete, 3, 0, 0)), 0, 0, poolOf(f, 7, 3, 4, 9, 1, -1))
	f = impl.DropTree(plainForest(), 4).Forest
	wantPool(t, "one between", impl.ApplyOp(plainPool(), opOf(impl.OpDelete, 7, 0, 0)), 0, 0, poolOf(f, 3, 5, 2, 9, 1, -1))
	wantPool(t, "an empty one", impl.ApplyOp(plainPool(), opOf(impl.OpDelete, 9, 0, 0)), 0, 0, poolOf(plainForest(), 3, 5, 2, 7, 3, 4))
	p := crowdedPool()
	p.Forest.Nodes[4].Refs = 2
	p.Vols = slices.Delete(p.Vols, 2, 3)
	wantPool(t, "one whose tree others have", impl.ApplyOp(crowdedPool(), opOf(impl.OpDelete, 50, 0, 0)), 0, 0, p)
	none := poolOf(impl.Forest{}, 1, 1, -1)
	wantPool(t, "the only one", impl.ApplyOp(none, opOf(impl.OpDelete, 1, 0, 0)), 0, 0, impl.Pool{})
}

func TestASnapshotStaysAsItWas(t *testing.T) {
	p := impl.ApplyOp(plainPool(), opOf(impl.OpSnap, 7, 0, 8)).Pool
	want := readsOf(plainPool(), 7)
	for at := range int64(16) {
		for _, o := range []impl.Op{opOf(impl.OpWrite, 7, at, 200), opOf(impl.OpDiscard, 7, at, 0), opOf(impl.OpDelete, 7, 0, 0)} {
			changed := impl.ApplyOp(p, o)
			if got := readsOf(changed.Pool, 8); changed.Code != impl.OK || !slices.EqualFunc(got, want, sameRead) {
				t.Errorf("%v: the snapshot reads %v, want %v", o, got, want)
			}
		}
	}
}

func sameRead(a, b impl.PoolResult) bool {
	return a.Code == b.Code && a.Reply == b.Reply && a.Value == b.Value
}
