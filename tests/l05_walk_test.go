package tests

import (
	"testing"

	"loop.example/g00277/impl"
)

type walkVol struct {
	quota int64
	cells cellTable
}

func (v walkVol) used() int64 {
	return int64(len(v.cells.walk()) / 2)
}

// poolWalk is a pool, and beside it for each id what must be read in its volume.
type poolWalk struct {
	pool impl.Pool
	vols map[int64]walkVol
}

func (w *poolWalk) newReply(id int64) int64 {
	_, has := w.vols[id]
	switch {
	case has:
		return impl.ErrTaken
	case len(w.vols) == 6:
		return impl.ErrMany
	}
	return impl.OK
}

// reply is what the operation must come to, told by the tables and how many blocks are free.
func (w *poolWalk) reply(o impl.Op) int64 {
	if o.Kind == impl.OpCreate {
		return w.newReply(o.Vol)
	}
	v, has := w.vols[o.Vol]
	switch {
	case !has:
		return impl.ErrNone
	case o.Kind == impl.OpSnap:
		return w.newReply(o.Value)
	case o.Kind == impl.OpDelete:
		return impl.OK
	case o.Kind != impl.OpWrite && v.cells[o.At] == -1:
		return impl.ErrNone
	case o.Kind == impl.OpWrite && v.cells[o.At] == -1 && v.used() >= v.quota:
		return impl.ErrQuota
	case o.Kind == impl.OpWrite && firstFree(w.pool.Forest.Blocks) < 0:
		return impl.ErrFull
	}
	return impl.OK
}

func (w *poolWalk) change(o impl.Op) {
	v := w.vols[o.Vol]
	switch o.Kind {
	case impl.OpCreate:
		w.vols[o.Vol] = walkVol{o.Value, emptyTable()}
	case impl.OpWrite:
		v.cells[o.At] = o.Value
		w.vols[o.Vol] = v
	case impl.OpDiscard:
		v.cells[o.At] = -1
		w.vols[o.Vol] = v
	case impl.OpSnap:
		w.vols[o.Value] = v
	case impl.OpDelete:
		delete(w.vols, o.Vol)
	}
}

func (w *poolWalk) do(t *testing.T, o impl.Op) {
	t.Helper()
	got := impl.ApplyOp(w.pool, o)
	reply, value := w.reply(o), int64(0)
	if reply == impl.OK && o.Kind == impl.OpRead {
		value = w.vols[o.Vol].cells[o.At]
	}
	if got.Code != impl.OK || got.Reply != reply || got.Value != value {
		t.Fatalf("ApplyOp(%v, %v): got %v, want reply %d, value %d", w.pool, o, got, reply, value)
	}
	stays := reply != impl.OK || o.Kind == impl.OpRead
	if same := samePool(got.Pool, w.pool); same != impl.SamePools(got.Pool, w.pool) || stays && !same {
		t.Fatalf("ApplyOp(%v, %v): got %v", w.pool, o, got)
	}
	if o.Kind == impl.OpSnap && impl.FreeOf(got.Pool.Forest.Blocks) != impl.FreeOf(w.pool.Forest.Blocks) {
		t.Fatalf("ApplyOp(%v, %v): a snapshot takes a block: %v", w.pool, o, got)
	}
	if reply == impl.OK {
		w.change(o)
	}
	w.pool = got.Pool
}

func (w *poolWalk) check(t *testing.T) {
	t.Helper()
	if code := impl.PoolFault(w.pool); code != impl.OK || len(w.pool.Vols) != len(w.vols) {
		t.Fatalf("%v has the fault %d; there must be %d volumes", w.pool, code, len(w.vols))
	}
	for i, v := range w.pool.Vols {
		want := w.vols[v.Id]
		if v.Quota != want.quota || want.used() > v.Quota {
			t.Fatalf("%v: the volume %v, want %v", w.pool, v, want)
		}
		wantInt(t, "VolAt", impl.VolAt(w.pool, v.Id), impl.OK, int64(i))
		wantInt(t, "UsedOf", impl.UsedOf(w.pool, v.Id), impl.OK, want.used())
		wantInts(t, "WalkTree", impl.WalkTree(w.pool.Forest, v.Root), impl.OK, want.cells.walk())
	}
}

// anyOp has few ids and few places, so that what is asked often meets what is there.
func anyOp(x *dice) impl.Op {
	ids := []int64{1, 2, 3, 4, 50, 51, 98, 99}
	o := impl.Op{Vol: ids[x.upTo(8)]}
	k := x.upTo(40)
	switch {
	case k < 3:
		o.Kind, o.Value = impl.OpCreate, 1+x.upTo(16)
	case k < 22:
		o.Kind, o.At, o.Value = impl.OpWrite, x.upTo(16), x.upTo(256)
	case k < 28:
		o.Kind, o.At = impl.OpDiscard, x.upTo(16)
	case k < 32:
		o.Kind, o.At = impl.OpRead, x.upTo(16)
	case k < 37:
		o.Kind, o.Value = impl.OpSnap, ids[x.upTo(8)]
	default:
		o.Kind = impl.OpDelete
	}
	return o
}

// A walk of all operations beside tables of cells, with few blocks and with many.
func TestPoolWalk(t *testing.T) {
	x := &dice{state: 5}
	for _, blocks := range []int64{0, 1, 5, 12, 24} {
		w := &poolWalk{pool: impl.NewPool(blocks).Pool, vols: map[int64]walkVol{}}
		for range 2000 {
			w.do(t, anyOp(x))
			w.check(t)
		}
		for len(w.pool.Vols) > 0 {
			w.do(t, opOf(impl.OpDelete, w.pool.Vols[0].Id, 0, 0))
			w.check(t)
		}
		if usedNodes(w.pool.Forest) != 0 || impl.FreeOf(w.pool.Forest.Blocks).Value != blocks {
			t.Fatalf("all volumes are deleted, and there is %v", w.pool)
		}
	}
}

// A pool whose volumes name a leaf and a block twice is walked on as any other.
func TestPoolWalkFromAPoolWithNamesTwice(t *testing.T) {
	x := &dice{state: 55}
	for range 200 {
		v := walkVol{16, emptyTable()}
		for _, at := range []int{0, 3, 8, 11} {
			v.cells[at] = 9
		}
		w := &poolWalk{pool: twicePool(16), vols: map[int64]walkVol{5: v}}
		w.check(t)
		for range 12 {
			o := anyOp(x)
			if x.upTo(2) == 0 {
				o.Vol = 5
			}
			w.do(t, o)
			w.check(t)
		}
	}
}
