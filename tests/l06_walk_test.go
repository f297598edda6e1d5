package tests

import (
	"slices"
	"testing"

	"loop.example/g00277/impl"
)

// isFull tells whether the operation comes to a SetTree that has no free block.
func isFull(p impl.Pool, o impl.Op) bool {
	at := impl.VolAt(p, o.Vol)
	return o.Kind == impl.OpWrite && at.Code == impl.OK && impl.SetTree(p.Forest, p.Vols[at.Value].Root, o.At, o.Value).Code == impl.ErrFull
}

// cellsBut are all cells of volumes but the one of the id.
func cellsBut(p impl.Plain, id int64) []impl.Cell {
	return slices.DeleteFunc(slices.Clone(p.Cells), func(c impl.Cell) bool { return c.Vol == id })
}

func cellsIn(p impl.Plain, id int64) []impl.Cell {
	return slices.DeleteFunc(slices.Clone(p.Cells), func(c impl.Cell) bool { return c.Vol != id })
}

// changedBy is the id of the one volume whose cells the operation may change.
func changedBy(o impl.Op) int64 {
	if o.Kind == impl.OpSnap {
		return o.Value
	}
	return o.Vol
}

// wantAlike asks the operation of the pool and of its plain pool, and answers with the pool then.
func wantAlike(t *testing.T, p impl.Pool, o impl.Op) impl.Pool {
	t.Helper()
	like := impl.PlainOf(p).Plain
	trees, cells := impl.ApplyOp(p, o), impl.ApplyPlain(like, o, isFull(p, o))
	if trees.Code != cells.Code || trees.Reply != cells.Reply || trees.Value != cells.Value {
		t.Fatalf("%v, of %v: with trees %v, with cells %v", o, p, trees, cells)
	}
	if trees.Code != impl.OK {
		wantPlainCode(t, "a wrong operation", cells, impl.OpFault(o))
		return p
	}
	then := impl.PlainOf(trees.Pool)
	if then.Code != impl.OK || !impl.SamePlains(then.Plain, cells.Plain) || !samePlain(then.Plain, likeOf(trees.Pool)) {
		t.Fatalf("%v, of %v: with trees %v, with cells %v", o, p, then, cells)
	}
	if impl.PlainFault(then.Plain) != impl.OK || impl.PlainFault(cells.Plain) != impl.OK {
		t.Fatalf("%v, of %v: a fault of %v or of %v", o, p, then, cells)
	}
	if id := changedBy(o); !slices.Equal(cellsBut(then.Plain, id), cellsBut(like, id)) {
		t.Fatalf("%v, of %v: the cells of others change to %v", o, p, then.Plain.Cells)
	}
	if (trees.Reply != impl.OK || o.Kind == impl.OpRead) && !samePlain(cells.Plain, like) {
		t.Fatalf("%v, of %v: does not stay as it is: %v", o, p, cells)
	}
	return trees.Pool
}

func anyOpOrWrong(x *dice) impl.Op {
	if wrong := wrongOps(); x.upTo(10) == 0 {
		return wrong[x.upTo(int64(len(wrong)))]
	}
	return anyOp(x)
}

// Beside the pool goes a plain pool that is made once, of the new one, and told all operations.
func TestTreesAndCellsAreAlike(t *testing.T) {
	x := &dice{state: 6}
	for _, blocks := range []int64{0, 1, 3, 8, 16, 24} {
		p := impl.NewPool(blocks).Pool
		beside := impl.PlainOf(p).Plain
		for step := range 1500 {
			o := anyOpOrWrong(x)
			if got := impl.ApplyPlain(beside, o, isFull(p, o)); got.Code == impl.OK {
				beside = got.Plain
			}
			p = wantAlike(t, p, o)
			if !impl.SamePlains(beside, impl.PlainOf(p).Plain) {
				t.Fatalf("step %d: %v: the pool is like %v, want %v", step, o, impl.PlainOf(p), beside)
			}
		}
	}
}

// All operations that can be right, of pools with shared trees, without a free block and with names twice.
func TestEachOperationIsAlike(t *testing.T) {
	for _, c := range soundPools() {
		ids := []int64{4, 60}
		for _, v := range c.pool.Vols {
			ids = append(ids, v.Id)
		}
		for _, id := range ids {
			for at := range int64(16) {
				wantAlike(t, c.pool, opOf(impl.OpWrite, id, at, 200))
				wantAlike(t, c.pool, opOf(impl.OpDiscard, id, at, 0))
				wantAlike(t, c.pool, opOf(impl.OpRead, id, at, 0))
			}
			for _, other := range ids {
				wantAlike(t, c.pool, opOf(impl.OpSnap, id, 0, other))
			}
			wantAlike(t, c.pool, opOf(impl.OpCreate, id, 0, 4))
			wantAlike(t, c.pool, opOf(impl.OpDelete, id, 0, 0))
		}
		for _, o := range wrongOps() {
			wantAlike(t, c.pool, o)
		}
	}
}

// wantKept changes one volume of a pool in many ways, and the cells of the other one must stay.
func wantKept(t *testing.T, p impl.Pool, changed, kept int64) {
	t.Helper()
	x := &dice{state: uint64(changed)}
	like := impl.PlainOf(p).Plain
	want := cellsIn(like, kept)
	for range 300 {
		o := opOf(impl.OpWrite, changed, x.upTo(16), x.upTo(256))
		if x.upTo(3) == 0 {
			o = opOf(impl.OpDiscard, changed, x.upTo(16), 0)
		}
		like = impl.ApplyPlain(like, o, isFull(p, o)).Plain
		p = impl.ApplyOp(p, o).Pool
		if trees := impl.PlainOf(p).Plain; !slices.Equal(cellsIn(trees, kept), want) || !slices.Equal(cellsIn(like, kept), want) {
			t.Fatalf("%v: the volume %d has with trees %v, with cells %v, want %v", o, kept, cellsIn(trees, kept), cellsIn(like, kept), want)
		}
	}
	o := opOf(impl.OpDelete, changed, 0, 0)
	for _, then := range []impl.Plain{impl.PlainOf(impl.ApplyOp(p, o).Pool).Plain, impl.ApplyPlain(like, o, false).Plain} {
		if !slices.Equal(then.Cells, cellsBut(like, changed)) || !slices.Equal(cellsIn(then, kept), want) {
			t.Errorf("%v: there is %v", o, then)
		}
	}
}

func TestASnapshotAndItsVolumeAreApart(t *testing.T) {
	for _, pool := range []impl.Pool{plainPool(), fullPool(), poolOf(fullTree(), 7, 16, 4), twicePool(16)} {
		pool.Forest.Blocks = append(pool.Forest.Blocks, make([]impl.Block, 24-len(pool.Forest.Blocks))...)
		for _, v := range pool.Vols {
			for _, id := range []int64{1, 6, 8, 99} {
				p := impl.ApplyOp(pool, opOf(impl.OpSnap, v.Id, 0, id)).Pool
				if code := impl.PoolFault(p); code != impl.OK || len(p.Vols) != len(pool.Vols)+1 {
					t.Fatalf("a snapshot %d of %d: %v has the fault %d", id, v.Id, p, code)
				}
				wantKept(t, p, v.Id, id)
				wantKept(t, p, id, v.Id)
			}
		}
	}
}

func TestADeleteTakesNothingFromOthers(t *testing.T) {
	for _, c := range soundPools() {
		like := impl.PlainOf(c.pool).Plain
		for _, v := range c.pool.Vols {
			o := opOf(impl.OpDelete, v.Id, 0, 0)
			then := impl.PlainOf(impl.ApplyOp(c.pool, o).Pool)
			if then.Code != impl.OK || !slices.Equal(then.Plain.Cells, cellsBut(like, v.Id)) {
				t.Errorf("%s: %v: with trees %v", c.name, o, then)
			}
			if got := impl.ApplyPlain(like, o, false); got.Code != impl.OK || !slices.Equal(got.Plain.Cells, cellsBut(like, v.Id)) {
				t.Errorf("%s: %v: with cells %v", c.name, o, got)
			}
		}
	}
}
