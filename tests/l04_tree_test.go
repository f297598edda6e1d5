package tests

import (
	"math"
	"slices"
	"testing"

	"loop.example/g00277/impl"
)

func leafNode(refs int64, kids ...int64) impl.Node {
	return impl.Node{Refs: refs, Leaf: true, Kids: kids}
}

func rootNode(refs int64, kids ...int64) impl.Node {
	return impl.Node{Refs: refs, Kids: kids}
}

// blocksOf has a block for each two numbers: its Refs, then its Data.
func blocksOf(numbers ...int64) []impl.Block {
	var list []impl.Block
	for two := range slices.Chunk(numbers, 2) {
		list = append(list, impl.Block{Refs: two[0], Data: two[1]})
	}
	return list
}

func forestOf(blocks []impl.Block, nodes ...impl.Node) impl.Forest {
	return impl.Forest{Nodes: nodes, Blocks: blocks}
}

func sameNode(a, b impl.Node) bool {
	return a.Refs == b.Refs && a.Leaf == b.Leaf && slices.Equal(a.Kids, b.Kids)
}

func sameForest(a, b impl.Forest) bool {
	return slices.EqualFunc(a.Nodes, b.Nodes, sameNode) && slices.Equal(a.Blocks, b.Blocks)
}

func copyForest(f impl.Forest) impl.Forest {
	nodes := slices.Clone(f.Nodes)
	for i := range nodes {
		nodes[i].Kids = slices.Clone(nodes[i].Kids)
	}
	return impl.Forest{Nodes: nodes, Blocks: slices.Clone(f.Blocks)}
}

func wantForest(t *testing.T, name string, got impl.ForestResult, root int64, f impl.Forest) {
	t.Helper()
	if got.Code != impl.OK || got.Root != root || !sameForest(got.Forest, f) {
		t.Errorf("%s: got %v, want root %d, forest %v", name, got, root, f)
	}
	if code := impl.ForestFault(got.Forest); code != impl.OK {
		t.Errorf("%s: the answer %v has the fault %d", name, got, code)
	}
}

func wantForestCode(t *testing.T, name string, got impl.ForestResult, code int64) {
	t.Helper()
	if got.Code != code || got.Root != 0 || !sameForest(got.Forest, impl.Forest{}) {
		t.Errorf("%s: got %v, want the code %d and nothing else", name, got, code)
	}
}

// plainForest: two trees, at 2 and 4, which share the leaf 1; 3 is free, and so are the blocks 2 and 5.
func plainForest() impl.Forest {
	return forestOf(blocksOf(2, 10, 1, 11, 0, 0, 1, 13, 1, 14, 0, 0),
		leafNode(1, 0, 1, -1, -1),
		leafNode(2, -1, -1, 3, -1),
		rootNode(1, 0, -1, 1, -1),
		impl.Node{},
		rootNode(1, -1, 1, -1, 5),
		leafNode(1, 4, -1, -1, 0),
	)
}

// fullTree has all that a tree may have: places 0 to 15, with the data 100 to 115.
func fullTree() impl.Forest {
	var blocks []impl.Block
	for at := range int64(16) {
		blocks = append(blocks, impl.Block{Refs: 1, Data: 100 + at})
	}
	return forestOf(blocks, leafNode(1, 0, 1, 2, 3), leafNode(1, 4, 5, 6, 7),
		leafNode(1, 8, 9, 10, 11), leafNode(1, 12, 13, 14, 15), rootNode(1, 0, 1, 2, 3))
}

// manyNodes has n nodes: one tree over the leaves 0 and 1, and leaves behind it that nobody but a volume has.
func manyNodes(n int) impl.Forest {
	f := forestOf(blocksOf(1, 1, 0, 0, 0, 0), leafNode(1, 0, -1, -1, -1), leafNode(1, 0, -1, -1, -1), rootNode(1, 0, 1, -1, -1))
	for len(f.Nodes) < n {
		f.Nodes = append(f.Nodes, leafNode(1, 0, -1, -1, -1))
	}
	f.Blocks[0].Refs = int64(n - 1)
	return f
}

// oftenNamed has a block with 200 Refs: 50 leaves have it at all their places.
// The tree at 50 has the last one of these, which has Refs 2 and so is copied.
func oftenNamed() impl.Forest {
	f := forestOf(blocksOf(200, 7, 0, 0, 0, 0))
	for range 49 {
		f.Nodes = append(f.Nodes, leafNode(1, 0, 0, 0, 0))
	}
	f.Nodes = append(f.Nodes, leafNode(2, 0, 0, 0, 0), rootNode(1, 49, -1, -1, -1))
	return f
}

type forestCase struct {
	name   string
	forest impl.Forest
	code   int64
}

// nodeBut is the plain forest with another node at a place.
func nodeBut(at int, n impl.Node) impl.Forest {
	f := plainForest()
	f.Nodes[at] = n
	return f
}

func blockBut(at int, b impl.Block) impl.Forest {
	f := plainForest()
	f.Blocks[at] = b
	return f
}

func faultyShapes() []forestCase {
	twoFree := forestOf(nil, impl.Node{}, impl.Node{})
	wrong := []forestCase{
		{"61 free nodes", forestOf(nil, make([]impl.Node, 61)...), impl.ErrMany},
		{"61 nodes", manyNodes(61), impl.ErrMany},
		{"61 nodes ahead of a wrong one", forestOf(nil, append([]impl.Node{{Refs: -1}}, make([]impl.Node, 60)...)...), impl.ErrMany},
		{"blocks ahead of too many nodes", forestOf(blocksOf(0, 1), make([]impl.Node, 61)...), impl.ErrForm},
		{"blocks ahead of a node's range", forestOf(blocksOf(0, 1), impl.Node{Refs: 201}), impl.ErrForm},
		{"form of the first node, range of the next", forestOf(nil, leafNode(0), impl.Node{Refs: 201}), impl.ErrForm},
		{"range of the first node, form of the next", forestOf(nil, impl.Node{Refs: 201}, leafNode(0)), impl.ErrRange},
		{"a free block in the first node, range of the next", forestOf(blocksOf(0, 0), leafNode(1, 0, -1, -1, -1), impl.Node{Refs: 201}), impl.ErrForm},
		{"a free leaf in the first node, range of the next", forestOf(nil, rootNode(1, 2, -1, -1, -1), impl.Node{Refs: 201}, leafNode(0)), impl.ErrForm},
		{"a free node in the first node, range of the next", forestOf(nil, rootNode(1, 2, -1, -1, -1), impl.Node{Refs: 201}, impl.Node{}), impl.ErrForm},
		{"no leaf in the first node, range of the next", forestOf(nil, rootNode(1, 0, -1, -1, -1), impl.Node{Refs: 201}), impl.ErrForm},
		{"range ahead of form in one node", forestOf(nil, impl.Node{Refs: 201, Kids: []int64{9}}), impl.ErrRange},
		{"Refs below 0 ahead of the Kids", forestOf(nil, leafNode(-1, 9)), impl.ErrRange},
		{"range of the last node ahead of counts", forestOf(blocksOf(5, 1), leafNode(1, 0, -1, -1, -1), impl.Node{Refs: -1}), impl.ErrRange},
		{"a leaf behind it has Refs 201", forestOf(blocksOf(1, 1), rootNode(1, 1, -1, -1, -1), leafNode(201, 0, -1, -1, -1)), impl.ErrRange},
		{"one that is free is a Leaf", nodeBut(3, leafNode(0)), impl.ErrForm},
		{"one that is free has Kids", nodeBut(3, rootNode(0, -1, -1, -1, -1)), impl.ErrForm},
		{"one that is free has a Kid", nodeBut(3, rootNode(0, 1)), impl.ErrForm},
		{"one that is free is a Leaf with Kids", nodeBut(3, leafNode(0, -1, -1, -1, -1)), impl.ErrForm},
		{"a root without Kids", nodeBut(3, rootNode(1)), impl.ErrForm},
		{"a leaf without Kids", nodeBut(3, leafNode(1)), impl.ErrForm},
		{"a root with nothing", nodeBut(3, rootNode(1, -1, -1, -1, -1)), impl.ErrForm},
		{"a leaf with nothing", nodeBut(3, leafNode(1, -1, -1, -1, -1)), impl.ErrForm},
	}
	for _, b := range faultyBlocks() {
		wrong = append(wrong, forestCase{"blocks: " + b.name, forestOf(b.list, twoFree.Nodes...), b.code})
	}
	for _, refs := range []int64{-1, 201, math.MinInt64, math.MaxInt64} {
		wrong = append(wrong,
			forestCase{"Refs of a free node", nodeBut(3, impl.Node{Refs: refs}), impl.ErrRange},
			forestCase{"Refs of a leaf", nodeBut(0, leafNode(refs, 0, 1, -1, -1)), impl.ErrRange},
			forestCase{"Refs of a root", nodeBut(4, rootNode(refs, -1, 1, -1, 5)), impl.ErrRange})
	}
	return wrong
}

func faultyKids() []forestCase {
	wrong := []forestCase{
		{"a root with 3 Kids", nodeBut(2, rootNode(1, 0, -1, 1)), impl.ErrForm},
		{"a root with 5 Kids", nodeBut(2, rootNode(1, 0, -1, 1, -1, -1)), impl.ErrForm},
		{"a leaf with 3 Kids", nodeBut(0, leafNode(1, 0, 1, -1)), impl.ErrForm},
		{"a leaf with 5 Kids", nodeBut(0, leafNode(1, 0, 1, -1, -1, -1)), impl.ErrForm},
	}
	for slot := range 4 {
		for _, kid := range []int64{-2, 2, 6, 7, math.MinInt64, math.MaxInt64} {
			n := leafNode(1, 0, 0, 0, 0)
			n.Kids[slot] = kid
			wrong = append(wrong, forestCase{"a leaf names no block or a free one", forestOf(blocksOf(3, 1, 0, 0, 0, 0, 0, 0, 0, 0, 0, 0), n), impl.ErrForm})
		}
		for _, kid := range []int64{-2, 0, 2, 3, 4, math.MinInt64, math.MaxInt64} {
			n := rootNode(1, 1, 1, 1, 1)
			n.Kids[slot] = kid
			f := forestOf(blocksOf(1, 1, 0, 0, 0, 0, 0, 0, 0, 0), n, leafNode(4, 0, -1, -1, -1), impl.Node{}, rootNode(1, 1, -1, -1, -1))
			wrong = append(wrong, forestCase{"a root names no node, a free one, itself or another root", f, impl.ErrForm})
		}
	}
	return wrong
}

func faultyCounts() []forestCase {
	wrong := []forestCase{
		{"a block with one too many", blockBut(1, impl.Block{Refs: 2, Data: 11}), impl.ErrForm},
		{"a block with one too few", blockBut(0, impl.Block{Refs: 1, Data: 10}), impl.ErrForm},
		{"the last block is named by nobody", blockBut(5, impl.Block{Refs: 1}), impl.ErrForm},
		{"a block without nodes", forestOf(blocksOf(1, 0)), impl.ErrForm},
		{"a leaf with one too few", nodeBut(1, leafNode(1, -1, -1, 3, -1)), impl.ErrForm},
		{"a block that one leaf names twice", forestOf(blocksOf(1, 5), leafNode(1, 0, 0, -1, -1)), impl.ErrForm},
		{"a block named by a leaf with Refs 2", forestOf(blocksOf(2, 5), leafNode(2, 0, -1, -1, -1)), impl.ErrForm},
		{"a leaf that one root names twice", forestOf(blocksOf(1, 5), leafNode(1, 0, -1, -1, -1), rootNode(2, 0, 0, -1, -1)), impl.ErrForm},
		{"a leaf that one root names four times", forestOf(blocksOf(1, 5), rootNode(1, 1, 1, 1, 1), leafNode(3, 0, -1, -1, -1)), impl.ErrForm},
	}
	f := oftenNamed()
	f.Nodes = append(f.Nodes, leafNode(1, 0, -1, -1, -1))
	return append(wrong, forestCase{"a block named 201 times", f, impl.ErrForm})
}

func faultyForests() []forestCase {
	return slices.Concat(faultyShapes(), faultyKids(), faultyCounts())
}

func soundForests() []forestCase {
	return []forestCase{
		{"nothing", impl.Forest{}, impl.OK},
		{"empty lists", impl.Forest{Nodes: []impl.Node{}, Blocks: []impl.Block{}}, impl.OK},
		{"plain", plainForest(), impl.OK},
		{"a full tree", fullTree(), impl.OK},
		{"59 nodes", manyNodes(59), impl.OK},
		{"60 nodes", manyNodes(60), impl.OK},
		{"60 free nodes", forestOf(make([]impl.Block, 24), make([]impl.Node, 60)...), impl.OK},
		{"a free node with an empty list of Kids", forestOf(nil, impl.Node{Kids: []int64{}}), impl.OK},
		{"a leaf with more than others name it", nodeBut(1, leafNode(200, -1, -1, 3, -1)), impl.OK},
		{"a leaf that no root names", forestOf(blocksOf(1, 0), leafNode(1, -1, -1, -1, 0)), impl.OK},
		{"a root with Refs 200", nodeBut(2, rootNode(200, 0, -1, 1, -1)), impl.OK},
		{"a block with Refs 200", oftenNamed(), impl.OK},
		{"a leaf with one block four times", forestOf(blocksOf(4, 255), leafNode(1, 0, 0, 0, 0)), impl.OK},
		{"a root with one leaf four times, behind it", forestOf(blocksOf(1, 5), rootNode(1, 1, 1, 1, 1), leafNode(4, 0, -1, -1, -1)), impl.OK},
		{"the last block, the last node", forestOf(append(make([]impl.Block, 23), impl.Block{Refs: 1}), append(make([]impl.Node, 58), rootNode(1, -1, 59, -1, -1), leafNode(1, -1, 23, -1, -1))...), impl.OK},
	}
}

func TestForestFault(t *testing.T) {
	for _, c := range append(faultyForests(), soundForests()...) {
		if got := impl.ForestFault(c.forest); got != c.code {
			t.Errorf("%s: %v: got %d, want %d", c.name, c.forest, got, c.code)
		}
	}
}

func wantTreeCodes(t *testing.T, name string, f impl.Forest, root, at, data, code int64) {
	t.Helper()
	wantInt(t, name+": LookTree", impl.LookTree(f, root, at), code, 0)
	wantForestCode(t, name+": SetTree", impl.SetTree(f, root, at, data), code)
	wantForestCode(t, name+": ClearTree", impl.ClearTree(f, root, at), code)
}

func wantRootCodes(t *testing.T, name string, f impl.Forest, root, code int64) {
	t.Helper()
	wantForestCode(t, name+": ShareTree", impl.ShareTree(f, root), code)
	wantForestCode(t, name+": DropTree", impl.DropTree(f, root), code)
	wantInts(t, name+": WalkTree", impl.WalkTree(f, root), code, nil)
}

// The other arguments are wrong as well in half of the calls: the fault of the forest is asked ahead of them.
func TestForestFaultComesFirst(t *testing.T) {
	for _, c := range faultyForests() {
		wantTreeCodes(t, c.name, c.forest, -1, 0, 0, c.code)
		wantTreeCodes(t, c.name, c.forest, -2, 16, 256, c.code)
		wantRootCodes(t, c.name, c.forest, -1, c.code)
		wantRootCodes(t, c.name, c.forest, math.MaxInt64, c.code)
	}
}

func TestNewForest(t *testing.T) {
	for n := range int64(25) {
		got := impl.NewForest(n)
		wantForest(t, "NewForest", got, -1, impl.Forest{Blocks: make([]impl.Block, n)})
		wantInts(t, "WalkTree of a new one", impl.WalkTree(got.Forest, got.Root), impl.OK, nil)
	}
	for _, n := range []int64{-1, 25, math.MinInt64, math.MaxInt64} {
		wantForestCode(t, "NewForest of a wrong number", impl.NewForest(n), impl.ErrRange)
	}
}

func TestRootPlaceAndDataOutOfRange(t *testing.T) {
	for _, root := range []int64{-2, 0, 1, 3, 5, 6, 7, math.MinInt64, math.MaxInt64} {
		wantTreeCodes(t, "no root", plainForest(), root, 0, 0, impl.ErrRange)
		wantRootCodes(t, "no root", plainForest(), root, impl.ErrRange)
		wantTreeCodes(t, "no root where no block is free", noBlockFree(), root, 0, 0, impl.ErrRange)
	}
	for _, root := range []int64{-1, 2, 4} {
		for _, at := range []int64{-1, 16, 17, -16, math.MinInt64, math.MaxInt64, 1 << 32} {
			wantTreeCodes(t, "no place", plainForest(), root, at, 0, impl.ErrRange)
			wantTreeCodes(t, "no place where no block is free", noBlockFree(), root, at, 0, impl.ErrRange)
		}
		for _, data := range []int64{-1, 256, math.MinInt64, math.MaxInt64} {
			wantForestCode(t, "no data", impl.SetTree(plainForest(), root, 0, data), impl.ErrRange)
			wantForestCode(t, "no data where no block is free", impl.SetTree(noBlockFree(), root, 0, data), impl.ErrRange)
		}
	}
}

func noBlockFree() impl.Forest {
	f := plainForest()
	f.Blocks = blocksOf(2, 10, 1, 11, 1, 12, 1, 13, 1, 14, 1, 15)
	f.Nodes[0] = leafNode(1, 0, 1, 2, 5)
	return f
}

func TestLookTree(t *testing.T) {
	for at := range int64(16) {
		wantInt(t, "a full tree", impl.LookTree(fullTree(), 4, at), impl.OK, 100+at)
		wantInt(t, "no tree", impl.LookTree(fullTree(), -1, at), impl.ErrNone, 0)
	}
	want := map[int64][]int64{2: {10, 11, -1, -1, -1, -1, -1, -1, -1, -1, 13, -1, -1, -1, -1, -1}, 4: {-1, -1, -1, -1, -1, -1, 13, -1, -1, -1, -1, -1, 14, -1, -1, 10}}
	for root, datas := range want {
		for at, data := range datas {
			if data == -1 {
				wantInt(t, "a place with nothing", impl.LookTree(plainForest(), root, int64(at)), impl.ErrNone, 0)
				wantForestCode(t, "ClearTree of nothing", impl.ClearTree(plainForest(), root, int64(at)), impl.ErrNone)
			} else {
				wantInt(t, "a place with a block", impl.LookTree(plainForest(), root, int64(at)), impl.OK, data)
			}
		}
	}
}

func TestWalkTree(t *testing.T) {
	var all []int64
	for at := range int64(16) {
		all = append(all, at, 100+at)
	}
	wantInts(t, "a full tree", impl.WalkTree(fullTree(), 4), impl.OK, all)
	wantInts(t, "no tree", impl.WalkTree(fullTree(), -1), impl.OK, nil)
	wantInts(t, "one", impl.WalkTree(plainForest(), 2), impl.OK, []int64{0, 10, 1, 11, 10, 13})
	wantInts(t, "another one", impl.WalkTree(plainForest(), 4), impl.OK, []int64{6, 13, 12, 14, 15, 10})
	twice := forestOf(blocksOf(2, 9), rootNode(1, 1, -1, 1, -1), leafNode(2, 0, -1, -1, 0))
	wantInts(t, "a leaf twice, a block twice", impl.WalkTree(twice, 0), impl.OK, []int64{0, 9, 3, 9, 8, 9, 11, 9})
}

func TestShareTree(t *testing.T) {
	wantForest(t, "no tree", impl.ShareTree(plainForest(), -1), -1, plainForest())
	for _, refs := range []int64{1, 2, 199} {
		want := nodeBut(4, rootNode(refs+1, -1, 1, -1, 5))
		wantForest(t, "one more", impl.ShareTree(nodeBut(4, rootNode(refs, -1, 1, -1, 5)), 4), 4, want)
	}
	wantForestCode(t, "one with 200", impl.ShareTree(nodeBut(4, rootNode(200, -1, 1, -1, 5)), 4), impl.ErrMany)
	wantForest(t, "another one has 200", impl.ShareTree(nodeBut(4, rootNode(200, -1, 1, -1, 5)), 2), 2, forestOf(plainForest().Blocks,
		leafNode(1, 0, 1, -1, -1), leafNode(2, -1, -1, 3, -1), rootNode(2, 0, -1, 1, -1), impl.Node{}, rootNode(200, -1, 1, -1, 5), leafNode(1, 4, -1, -1, 0)))
}

func TestDropTree(t *testing.T) {
	wantForest(t, "no tree", impl.DropTree(plainForest(), -1), -1, plainForest())
	for _, refs := range []int64{2, 3, 200} {
		want := nodeBut(4, rootNode(refs-1, -1, 1, -1, 5))
		wantForest(t, "one less", impl.DropTree(nodeBut(4, rootNode(refs, -1, 1, -1, 5)), 4), -1, want)
	}
	wantForest(t, "the last one", impl.DropTree(plainForest(), 2), -1, forestOf(blocksOf(1, 10, 0, 0, 0, 0, 1, 13, 1, 14, 0, 0),
		impl.Node{}, leafNode(1, -1, -1, 3, -1), impl.Node{}, impl.Node{}, rootNode(1, -1, 1, -1, 5), leafNode(1, 4, -1, -1, 0)))
	wantForest(t, "the last one, then the other", impl.DropTree(impl.DropTree(plainForest(), 2).Forest, 4), -1,
		forestOf(make([]impl.Block, 6), make([]impl.Node, 6)...))
	twice := forestOf(blocksOf(2, 9), rootNode(1, 1, -1, 1, -1), leafNode(2, 0, -1, -1, 0))
	wantForest(t, "a leaf twice, a block twice", impl.DropTree(twice, 0), -1, forestOf(make([]impl.Block, 1), make([]impl.Node, 2)...))
	kept := forestOf(blocksOf(2, 9), rootNode(1, 1, -1, 1, -1), leafNode(3, 0, -1, -1, 0))
	wantForest(t, "a leaf that somebody still has", impl.DropTree(kept, 0), -1, forestOf(blocksOf(2, 9), impl.Node{}, leafNode(1, 0, -1, -1, 0)))
}
