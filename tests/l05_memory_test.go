package tests

import (
	"math"
	"slices"
	"testing"

	"loop.example/g00277/impl"
)

// roomyPool has room behind the end of each list, where a careless append would write.
func roomyPool() impl.Pool {
	vols := append(make([]impl.Vol, 0, 12), volsOf(3, 5, 2, 5, 4, 2, 7, 3, 4, 9, 1, -1)...)
	return impl.Pool{Forest: roomyForest(), Vols: vols}
}

// wholePool has what stands behind the ends of the lists as well.
func wholePool(p impl.Pool) impl.Pool {
	return impl.Pool{Forest: wholeForest(p.Forest), Vols: slices.Clone(p.Vols[:cap(p.Vols)])}
}

func scribblePool(p impl.Pool) {
	scribbleForest(p.Forest)
	all := p.Vols[:cap(p.Vols)]
	for i := range all {
		all[i] = impl.Vol{Id: -77, Quota: -77, Root: -77}
	}
}

// poolOps are operations of all kinds, with each Reply that comes of the roomy pool.
func poolOps() []impl.Op {
	return []impl.Op{
		opOf(impl.OpCreate, 1, 0, 1), opOf(impl.OpCreate, 6, 0, 1), opOf(impl.OpCreate, 99, 0, 1), opOf(impl.OpCreate, 3, 0, 1),
		opOf(impl.OpWrite, 3, 0, 1), opOf(impl.OpWrite, 3, 15, 1), opOf(impl.OpWrite, 7, 12, 1), opOf(impl.OpWrite, 7, 0, 1),
		opOf(impl.OpWrite, 9, 4, 1), opOf(impl.OpWrite, 8, 4, 1), opOf(impl.OpDiscard, 3, 0, 0), opOf(impl.OpDiscard, 7, 6, 0),
		opOf(impl.OpDiscard, 7, 7, 0), opOf(impl.OpDiscard, 8, 7, 0), opOf(impl.OpRead, 3, 0, 0), opOf(impl.OpRead, 3, 4, 0),
		opOf(impl.OpRead, 9, 4, 0), opOf(impl.OpRead, 8, 4, 0), opOf(impl.OpSnap, 3, 0, 1), opOf(impl.OpSnap, 7, 0, 8),
		opOf(impl.OpSnap, 9, 0, 99), opOf(impl.OpSnap, 3, 0, 9), opOf(impl.OpSnap, 8, 0, 1), opOf(impl.OpDelete, 3, 0, 0),
		opOf(impl.OpDelete, 7, 0, 0), opOf(impl.OpDelete, 9, 0, 0), opOf(impl.OpDelete, 8, 0, 0),
	}
}

func TestPoolCallsChangeNoArgument(t *testing.T) {
	p := roomyPool()
	ahead := wholePool(p)
	for _, o := range poolOps() {
		if got := impl.ApplyOp(p, o); got.Code != impl.OK || !samePool(wholePool(p), ahead) {
			t.Errorf("%v: code %d, changed to %v", o, got.Code, wholePool(p))
		}
	}
	for _, id := range []int64{math.MinInt64, 0, 3, 8, 9, math.MaxInt64} {
		impl.VolAt(p, id)
		impl.UsedOf(p, id)
	}
	impl.PoolFault(p)
	impl.SamePools(p, p)
	impl.SamePools(p, plainPool())
	impl.SamePools(plainPool(), p)
	if !samePool(wholePool(p), ahead) {
		t.Errorf("changed to %v", wholePool(p))
	}
}

func TestPoolCodesChangeNoArgument(t *testing.T) {
	wrong := []impl.Op{{}, opOf(7, 1, 0, 0), opOf(impl.OpWrite, 3, 16, 0), opOf(impl.OpDelete, math.MinInt64, 0, 0)}
	cases := append(faultyPools(), soundPools()...)
	for _, c := range cases {
		ahead := copyPool(c.pool)
		for _, o := range append(wrong, poolOps()...) {
			impl.ApplyOp(c.pool, o)
		}
		impl.VolAt(c.pool, 3)
		impl.UsedOf(c.pool, 3)
		impl.SamePools(c.pool, c.pool)
		if !samePool(c.pool, ahead) {
			t.Errorf("%s: changed", c.name)
		}
	}
}

func TestPoolAnswersShareNoMemory(t *testing.T) {
	for _, o := range poolOps() {
		p := roomyPool()
		ahead := wholePool(p)
		got := impl.ApplyOp(p, o)
		want := copyPool(got.Pool)
		scribblePool(got.Pool)
		if !samePool(wholePool(p), ahead) {
			t.Errorf("%v: what is written into its answer is in its argument", o)
		}
		got = impl.ApplyOp(p, o)
		scribblePool(p)
		if !samePool(got.Pool, want) {
			t.Errorf("%v: what is written into its argument is in its answer", o)
		}
		if again := impl.ApplyOp(roomyPool(), o); !samePool(again.Pool, want) || again.Reply != got.Reply || again.Value != got.Value {
			t.Errorf("%v: another answer at the same arguments: %v", o, again)
		}
	}
}

// Kids of one node are written over, up to the end of their room: those of the others must stay.
func TestNodesOfAPoolShareNoMemory(t *testing.T) {
	for _, o := range poolOps() {
		want := impl.ApplyOp(roomyPool(), o).Pool
		for i := range want.Forest.Nodes {
			got := impl.ApplyOp(roomyPool(), o).Pool
			all := got.Forest.Nodes[i].Kids[:cap(got.Forest.Nodes[i].Kids)]
			for j := range all {
				all[j] = -77
			}
			got.Forest.Nodes[i] = want.Forest.Nodes[i]
			if !samePool(got, want) {
				t.Errorf("%v: the Kids of the node %d are those of another one", o, i)
			}
		}
	}
}

func TestNewPoolsShareNoMemory(t *testing.T) {
	got := impl.NewPool(6).Pool
	scribblePool(got)
	wantPool(t, "another new one", impl.NewPool(6), 0, 0, poolOf(impl.Forest{Blocks: make([]impl.Block, 6)}))
}
