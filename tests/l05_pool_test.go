package tests

import (
	"math"
	"slices"
	"testing"

	"loop.example/g00277/impl"
)

func opOf(kind, vol, at, value int64) impl.Op {
	return impl.Op{Kind: kind, Vol: vol, At: at, Value: value}
}

// volsOf has a volume for each three numbers: its Id, its Quota, its Root.
func volsOf(numbers ...int64) []impl.Vol {
	var list []impl.Vol
	for three := range slices.Chunk(numbers, 3) {
		list = append(list, impl.Vol{Id: three[0], Quota: three[1], Root: three[2]})
	}
	return list
}

func poolOf(f impl.Forest, numbers ...int64) impl.Pool {
	return impl.Pool{Forest: f, Vols: volsOf(numbers...)}
}

func samePool(a, b impl.Pool) bool {
	return sameForest(a.Forest, b.Forest) && slices.Equal(a.Vols, b.Vols)
}

func copyPool(p impl.Pool) impl.Pool {
	return impl.Pool{Forest: copyForest(p.Forest), Vols: slices.Clone(p.Vols)}
}

func wantPool(t *testing.T, name string, got impl.PoolResult, reply, value int64, p impl.Pool) {
	t.Helper()
	if got.Code != impl.OK || got.Reply != reply || got.Value != value || !samePool(got.Pool, p) {
		t.Errorf("%s: got %v, want reply %d, value %d, pool %v", name, got, reply, value, p)
	}
	if code := impl.PoolFault(got.Pool); code != impl.OK {
		t.Errorf("%s: the answer %v has the fault %d", name, got, code)
	}
}

func wantPoolCode(t *testing.T, name string, got impl.PoolResult, code int64) {
	t.Helper()
	if got.Code != code || got.Reply != 0 || got.Value != 0 || !samePool(got.Pool, impl.Pool{}) {
		t.Errorf("%s: got %v, want the code %d and nothing else", name, got, code)
	}
}

// plainPool: the volume 3 may have two more, 7 has all that it may, 9 has nothing; the blocks 2 and 5 are free.
func plainPool() impl.Pool {
	return poolOf(plainForest(), 3, 5, 2, 7, 3, 4, 9, 1, -1)
}

// crowdedPool has as many volumes as there may be; three of them share a tree.
func crowdedPool() impl.Pool {
	f := plainForest()
	f.Nodes[4].Refs = 3
	return poolOf(f, 1, 16, 4, 2, 3, 2, 50, 3, 4, 51, 1, -1, 98, 5, 4, 99, 16, -1)
}

// fullPool has no free block: 3 has all that it may, 7 may have more, 9 has nothing.
func fullPool() impl.Pool {
	return poolOf(noBlockFree(), 3, 5, 2, 7, 16, 4, 9, 1, -1)
}

// twicePool has a volume whose root has one leaf twice, which has one block twice.
func twicePool(quota int64) impl.Pool {
	return poolOf(forestOf(blocksOf(2, 9, 0, 0), rootNode(1, 1, -1, 1, -1), leafNode(2, 0, -1, -1, 0)), 5, quota, 0)
}

func badNumbers(low, high int64) []int64 {
	return []int64{low - 1, high + 1, math.MinInt64, math.MaxInt64, low - 1<<32, high + 1<<32}
}

// opBounds are the ends of what a field may be, both 0 where the kind has it not.
type opBounds struct {
	kind                           int64
	hasAt, hasValue                bool
	atLow, atHigh, valLow, valHigh int64
}

func allOpBounds() []opBounds {
	return []opBounds{
		{impl.OpCreate, false, true, 0, 0, 1, 16},
		{impl.OpWrite, true, true, 0, 15, 0, 255},
		{impl.OpDiscard, true, false, 0, 15, 0, 0},
		{impl.OpRead, true, false, 0, 15, 0, 0},
		{impl.OpSnap, false, true, 0, 0, 1, 99},
		{impl.OpDelete, false, false, 0, 0, 0, 0},
	}
}

func wantOpFault(t *testing.T, o impl.Op, code int64) {
	t.Helper()
	if got := impl.OpFault(o); got != code {
		t.Errorf("OpFault(%v): got %d, want %d", o, got, code)
	}
}

func TestOpKinds(t *testing.T) {
	kinds := []int64{impl.OpCreate, impl.OpWrite, impl.OpDiscard, impl.OpRead, impl.OpSnap, impl.OpDelete}
	if !slices.Equal(kinds, []int64{1, 2, 3, 4, 5, 6}) {
		t.Errorf("the kinds are %v", kinds)
	}
	for _, kind := range badNumbers(1, 6) {
		wantOpFault(t, opOf(kind, 1, 0, 0), impl.ErrForm)
		wantOpFault(t, opOf(kind, 0, 0, 0), impl.ErrForm)
		wantOpFault(t, opOf(kind, 100, 16, 256), impl.ErrForm)
	}
}

func TestOpFieldsAtTheirBounds(t *testing.T) {
	for _, b := range allOpBounds() {
		for _, vol := range []int64{1, 2, 98, 99} {
			for _, at := range []int64{b.atLow, b.atHigh} {
				for _, value := range []int64{b.valLow, b.valHigh} {
					wantOpFault(t, opOf(b.kind, vol, at, value), impl.OK)
				}
			}
		}
		for _, vol := range badNumbers(1, 99) {
			wantOpFault(t, opOf(b.kind, vol, b.atLow, b.valLow), impl.ErrRange)
			wantOpFault(t, opOf(b.kind, vol, 16, 256), impl.ErrRange)
			wantOpFault(t, opOf(b.kind, vol, -1, 1), impl.ErrRange)
		}
	}
}

// A field that a kind has leaves its bounds: that is told ahead of one that it has not.
func TestOpFieldsBehindTheirBounds(t *testing.T) {
	for _, b := range allOpBounds() {
		code := func(has bool) int64 {
			if has {
				return impl.ErrRange
			}
			return impl.ErrForm
		}
		for _, at := range append(badNumbers(b.atLow, b.atHigh), -1, 16) {
			wantOpFault(t, opOf(b.kind, 1, at, b.valLow), code(b.hasAt))
			wantOpFault(t, opOf(b.kind, 1, at, b.valHigh), code(b.hasAt))
			for _, value := range badNumbers(b.valLow, b.valHigh) {
				wantOpFault(t, opOf(b.kind, 1, at, value), code(b.hasAt || b.hasValue))
			}
		}
		for _, value := range badNumbers(b.valLow, b.valHigh) {
			wantOpFault(t, opOf(b.kind, 1, b.atLow, value), code(b.hasValue))
			wantOpFault(t, opOf(b.kind, 1, b.atHigh, value), code(b.hasValue))
		}
	}
	wantOpFault(t, opOf(impl.OpCreate, 1, 1, 16), impl.ErrForm)
	wantOpFault(t, opOf(impl.OpSnap, 1, 1, 99), impl.ErrForm)
	wantOpFault(t, opOf(impl.OpRead, 1, 15, -1), impl.ErrForm)
	wantOpFault(t, opOf(impl.OpSnap, 1, 0, 1), impl.OK)
}

type poolCase struct {
	name string
	pool impl.Pool
	code int64
}

func faultyVols() []poolCase {
	f := plainForest()
	seven := poolOf(impl.Forest{}, 1, 1, -1, 2, 1, -1, 3, 1, -1, 4, 1, -1, 5, 1, -1, 6, 1, -1, 7, 1, -1)
	wrong := []poolCase{
		{"7 volumes", seven, impl.ErrMany},
		{"7 volumes, all wrong", impl.Pool{Vols: make([]impl.Vol, 7)}, impl.ErrMany},
		{"two of one id", poolOf(f, 3, 5, 2, 3, 5, 4), impl.ErrForm},
		{"ids that fall", poolOf(f, 7, 5, 2, 3, 5, 4), impl.ErrForm},
		{"the last id falls", poolOf(f, 3, 5, 2, 7, 5, 4, 5, 1, -1), impl.ErrForm},
		{"one more than its Quota", poolOf(f, 3, 2, 2, 7, 3, 4), impl.ErrQuota},
		{"the last one has one more than its Quota", poolOf(f, 3, 3, 2, 7, 2, 4), impl.ErrQuota},
		{"16 blocks, Quota 15", poolOf(fullTree(), 3, 15, 4), impl.ErrQuota},
		{"a block at two places counts twice", twicePool(3), impl.ErrQuota},
		{"range of a Quota ahead of an id that is not above", poolOf(f, 7, 5, 2, 3, 0, 4), impl.ErrRange},
		{"range of a Root ahead of an id that is not above", poolOf(f, 7, 5, 2, 3, 5, 0), impl.ErrRange},
		{"range of an id that is not above", poolOf(f, 7, 5, 2, 0, 5, 4), impl.ErrRange},
		{"an id that is not above ahead of the Quota", poolOf(f, 7, 5, 2, 7, 1, 4), impl.ErrForm},
		{"Quota of the first, range of the next", poolOf(f, 3, 2, 2, 0, 5, 4), impl.ErrQuota},
		{"Quota of the first, the next is not above", poolOf(f, 3, 2, 2, 3, 5, 4), impl.ErrQuota},
		{"the second is not above, range of the third", poolOf(f, 3, 5, 2, 3, 5, 4, 100, 1, -1), impl.ErrForm},
		{"range of the first, the next is not above", poolOf(f, 3, 17, 2, 3, 5, 4), impl.ErrRange},
		{"range of the last ahead of Refs", poolOf(f, 3, 5, 2, 4, 0, -1), impl.ErrRange},
		{"Quota of the last ahead of Refs", poolOf(f, 3, 5, 2, 4, 1, 2), impl.ErrQuota},
		{"an id not above ahead of Refs", poolOf(f, 3, 5, 2, 3, 1, -1), impl.ErrForm},
	}
	for _, id := range badNumbers(1, 99) {
		wrong = append(wrong, poolCase{"the first id", poolOf(f, id, 5, 2, 7, 3, 4), impl.ErrRange})
		wrong = append(wrong, poolCase{"the last id", poolOf(f, 3, 5, 2, id, 3, 4), impl.ErrRange})
	}
	for _, quota := range badNumbers(1, 16) {
		wrong = append(wrong, poolCase{"a Quota", poolOf(f, 3, quota, 2, 7, 3, 4), impl.ErrRange})
		wrong = append(wrong, poolCase{"a Quota of an empty one", poolOf(impl.Forest{}, 3, quota, -1), impl.ErrRange})
	}
	for _, root := range []int64{-2, 0, 1, 3, 5, 6, 7, math.MinInt64, math.MaxInt64, 1<<32 + 2} {
		wrong = append(wrong, poolCase{"a Root", poolOf(f, 3, 5, root, 7, 3, 4), impl.ErrRange})
		wrong = append(wrong, poolCase{"a Root of a forest with nothing", poolOf(impl.Forest{}, 3, 5, root), impl.ErrRange})
	}
	return wrong
}

func faultyRefs() []poolCase {
	two := []int64{3, 5, 2, 7, 3, 4}
	return []poolCase{
		{"no volume has the trees", poolOf(plainForest()), impl.ErrForm},
		{"no volume has the first tree", poolOf(plainForest(), 7, 3, 4), impl.ErrForm},
		{"no volume has the last tree", poolOf(plainForest(), 3, 5, 2), impl.ErrForm},
		{"a root with one more than volumes", poolOf(nodeBut(2, rootNode(2, 0, -1, 1, -1)), two...), impl.ErrForm},
		{"a root with 200", poolOf(nodeBut(4, rootNode(200, -1, 1, -1, 5)), two...), impl.ErrForm},
		{"a root with one less than volumes", poolOf(plainForest(), 3, 5, 2, 7, 3, 4, 8, 3, 4), impl.ErrForm},
		{"one root has one more, the other one less", poolOf(nodeBut(2, rootNode(2, 0, -1, 1, -1)), 3, 5, 2, 7, 3, 4, 8, 3, 4), impl.ErrForm},
		{"a leaf with one more than nodes", poolOf(nodeBut(0, leafNode(2, 0, 1, -1, -1)), two...), impl.ErrForm},
		{"the last leaf with one more than nodes", poolOf(nodeBut(5, leafNode(2, 4, -1, -1, 0)), two...), impl.ErrForm},
		{"a leaf that two name with three", poolOf(nodeBut(1, leafNode(3, -1, -1, 3, -1)), two...), impl.ErrForm},
		{"a leaf that no root names", poolOf(forestOf(blocksOf(1, 0), leafNode(1, -1, -1, -1, 0))), impl.ErrForm},
		{"a leaf that no root names, as many volumes", poolOf(forestOf(blocksOf(1, 0), leafNode(1, -1, -1, -1, 0)), 1, 1, -1), impl.ErrForm},
	}
}

func faultyPools() []poolCase {
	wrong := append(faultyVols(), faultyRefs()...)
	for _, c := range faultyForests() {
		wrong = append(wrong,
			poolCase{"forest: " + c.name, poolOf(c.forest), c.code},
			poolCase{"forest ahead of volumes: " + c.name, impl.Pool{Forest: c.forest, Vols: make([]impl.Vol, 7)}, c.code},
			poolCase{"forest ahead of a volume: " + c.name, poolOf(c.forest, 1, 1, 99), c.code})
	}
	return wrong
}

func soundPools() []poolCase {
	six := poolOf(impl.Forest{}, 1, 1, -1, 2, 16, -1, 3, 1, -1, 4, 1, -1, 98, 1, -1, 99, 1, -1)
	return []poolCase{
		{"nothing", impl.Pool{}, impl.OK},
		{"empty lists", impl.Pool{Forest: impl.Forest{Nodes: []impl.Node{}, Blocks: []impl.Block{}}, Vols: []impl.Vol{}}, impl.OK},
		{"plain", plainPool(), impl.OK},
		{"6 volumes", crowdedPool(), impl.OK},
		{"6 empty volumes", six, impl.OK},
		{"no block is free", fullPool(), impl.OK},
		{"as many blocks as Quota", poolOf(plainForest(), 1, 3, 2, 99, 3, 4), impl.OK},
		{"16 blocks, Quota 16", poolOf(fullTree(), 3, 16, 4), impl.OK},
		{"a block at two places, a leaf at two", twicePool(4), impl.OK},
		{"the trees stand the other way round", poolOf(plainForest(), 3, 5, 4, 7, 3, 2), impl.OK},
		{"free nodes and blocks", poolOf(forestOf(make([]impl.Block, 24), make([]impl.Node, 60)...), 1, 1, -1), impl.OK},
	}
}

func TestPoolFault(t *testing.T) {
	for _, c := range append(faultyPools(), soundPools()...) {
		if got := impl.PoolFault(c.pool); got != c.code {
			t.Errorf("%s: %v: got %d, want %d", c.name, c.pool, got, c.code)
		}
	}
}

// The other arguments are wrong as well in half of the calls: the fault of the pool is asked ahead of them.
func TestPoolFaultComesFirst(t *testing.T) {
	for _, c := range faultyPools() {
		wantPoolCode(t, c.name, impl.ApplyOp(c.pool, opOf(impl.OpCreate, 55, 0, 1)), c.code)
		wantPoolCode(t, c.name, impl.ApplyOp(c.pool, opOf(impl.OpRead, 3, 0, 0)), c.code)
		wantPoolCode(t, c.name, impl.ApplyOp(c.pool, opOf(7, 0, 0, 0)), c.code)
		wantPoolCode(t, c.name, impl.ApplyOp(c.pool, opOf(impl.OpDelete, 100, 0, 0)), c.code)
		for _, id := range []int64{3, 55, 0, math.MaxInt64} {
			wantInt(t, c.name+": VolAt", impl.VolAt(c.pool, id), c.code, 0)
			wantInt(t, c.name+": UsedOf", impl.UsedOf(c.pool, id), c.code, 0)
		}
	}
}

func TestNewPool(t *testing.T) {
	for n := range int64(25) {
		wantPool(t, "NewPool", impl.NewPool(n), 0, 0, impl.Pool{Forest: impl.Forest{Blocks: make([]impl.Block, n)}})
	}
	for _, n := range badNumbers(0, 24) {
		wantPoolCode(t, "NewPool of a wrong number", impl.NewPool(n), impl.ErrRange)
	}
}

func TestVolAtAndUsedOf(t *testing.T) {
	for _, c := range soundPools() {
		for id := int64(-2); id < 103; id++ {
			at := slices.IndexFunc(c.pool.Vols, func(v impl.Vol) bool { return v.Id == id })
			if at < 0 {
				wantInt(t, c.name+": VolAt", impl.VolAt(c.pool, id), impl.ErrNone, 0)
				wantInt(t, c.name+": UsedOf", impl.UsedOf(c.pool, id), impl.ErrNone, 0)
				continue
			}
			used := int64(len(impl.WalkTree(c.pool.Forest, c.pool.Vols[at].Root).List) / 2)
			wantInt(t, c.name+": VolAt", impl.VolAt(c.pool, id), impl.OK, int64(at))
			wantInt(t, c.name+": UsedOf", impl.UsedOf(c.pool, id), impl.OK, used)
		}
		for _, id := range []int64{math.MinInt64, math.MaxInt64, 3 + 1<<32} {
			wantInt(t, c.name+": VolAt", impl.VolAt(c.pool, id), impl.ErrNone, 0)
			wantInt(t, c.name+": UsedOf", impl.UsedOf(c.pool, id), impl.ErrNone, 0)
		}
	}
	wantInt(t, "the last one", impl.VolAt(crowdedPool(), 99), impl.OK, 5)
	wantInt(t, "the first one", impl.VolAt(crowdedPool(), 1), impl.OK, 0)
	wantInt(t, "three blocks", impl.UsedOf(plainPool(), 7), impl.OK, 3)
	wantInt(t, "no blocks", impl.UsedOf(plainPool(), 9), impl.OK, 0)
	wantInt(t, "a full one", impl.UsedOf(poolOf(fullTree(), 3, 16, 4), 3), impl.OK, 16)
	wantInt(t, "a block at two places of a leaf that is there twice", impl.UsedOf(twicePool(4), 5), impl.OK, 4)
}

// poolChanges are all ways in which a pool can differ from the plain one by one thing.
func poolChanges() map[string]func(p *impl.Pool) {
	return map[string]func(p *impl.Pool){
		"an Id":            func(p *impl.Pool) { p.Vols[1].Id++ },
		"a Quota":          func(p *impl.Pool) { p.Vols[0].Quota++ },
		"a Root":           func(p *impl.Pool) { p.Vols[2].Root = 2 },
		"one volume less":  func(p *impl.Pool) { p.Vols = p.Vols[:2] },
		"one volume more":  func(p *impl.Pool) { p.Vols = append(p.Vols, impl.Vol{}) },
		"no volume":        func(p *impl.Pool) { p.Vols = nil },
		"volumes change":   func(p *impl.Pool) { p.Vols[0], p.Vols[1] = p.Vols[1], p.Vols[0] },
		"Refs of a node":   func(p *impl.Pool) { p.Forest.Nodes[5].Refs++ },
		"a Leaf":           func(p *impl.Pool) { p.Forest.Nodes[3].Leaf = true },
		"a kid":            func(p *impl.Pool) { p.Forest.Nodes[0].Kids[3] = 5 },
		"one kid less":     func(p *impl.Pool) { p.Forest.Nodes[0].Kids = p.Forest.Nodes[0].Kids[:3] },
		"no kids":          func(p *impl.Pool) { p.Forest.Nodes[4].Kids = nil },
		"one node less":    func(p *impl.Pool) { p.Forest.Nodes = p.Forest.Nodes[:5] },
		"one node more":    func(p *impl.Pool) { p.Forest.Nodes = append(p.Forest.Nodes, impl.Node{}) },
		"Refs of a block":  func(p *impl.Pool) { p.Forest.Blocks[0].Refs++ },
		"Data of a block":  func(p *impl.Pool) { p.Forest.Blocks[4].Data++ },
		"one block less":   func(p *impl.Pool) { p.Forest.Blocks = p.Forest.Blocks[:5] },
		"one block more":   func(p *impl.Pool) { p.Forest.Blocks = append(p.Forest.Blocks, impl.Block{}) },
		"far ends, a node": func(p *impl.Pool) { p.Forest.Nodes[0].Refs = math.MinInt64 },
		"far ends, a vol":  func(p *impl.Pool) { p.Vols[0].Root = math.MaxInt64 },
	}
}

func TestSamePools(t *testing.T) {
	cases := append(faultyPools(), soundPools()...)
	for _, c := range cases {
		if !impl.SamePools(c.pool, copyPool(c.pool)) {
			t.Errorf("%s: is not the same as itself", c.name)
		}
		for _, other := range soundPools() {
			want := samePool(c.pool, other.pool)
			if impl.SamePools(c.pool, other.pool) != want || impl.SamePools(other.pool, c.pool) != want {
				t.Errorf("%s beside %s: want %v", c.name, other.name, want)
			}
		}
	}
	for name, change := range poolChanges() {
		changed := plainPool()
		change(&changed)
		if impl.SamePools(changed, plainPool()) || impl.SamePools(plainPool(), changed) {
			t.Errorf("%s: is told as the same", name)
		}
		again := plainPool()
		change(&again)
		if !impl.SamePools(changed, again) {
			t.Errorf("%s: is told as another one", name)
		}
	}
	lists := impl.Pool{Forest: impl.Forest{Nodes: []impl.Node{}, Blocks: []impl.Block{}}, Vols: []impl.Vol{}}
	if !impl.SamePools(lists, impl.Pool{}) || !impl.SamePools(impl.Pool{}, lists) {
		t.Error("empty lists are not the same as none")
	}
	noKids := plainPool()
	noKids.Forest.Nodes[3].Kids = []int64{}
	if !impl.SamePools(noKids, plainPool()) {
		t.Error("an empty list of Kids is not the same as none")
	}
}
