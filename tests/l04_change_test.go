package tests

import (
	"testing"

	"loop.example/g00277/impl"
)

// kidsWith are four Kids: -1, but for one.
func kidsWith(slot int64, kid int64) []int64 {
	kids := []int64{-1, -1, -1, -1}
	kids[slot] = kid
	return kids
}

func TestSetTreeWhereThereIsNone(t *testing.T) {
	for at := range int64(16) {
		for _, data := range []int64{0, 1, 255} {
			got := impl.SetTree(impl.NewForest(2).Forest, -1, at, data)
			want := forestOf(blocksOf(1, data, 0, 0), leafNode(1, kidsWith(at%4, 0)...), rootNode(1, kidsWith(at/4, 0)...))
			wantForest(t, "the first place of a tree", got, 1, want)
			wantInts(t, "WalkTree", impl.WalkTree(got.Forest, got.Root), impl.OK, []int64{at, data})
		}
	}
	got := impl.SetTree(plainForest(), -1, 7, 77)
	want := plainForest()
	want.Blocks[2] = impl.Block{Refs: 1, Data: 77}
	want.Nodes[3] = leafNode(1, -1, -1, -1, 2)
	want.Nodes = append(want.Nodes, rootNode(1, -1, 3, -1, -1))
	wantForest(t, "the leaf at the free place, the root behind all", got, 6, want)
}

func TestSetTreeFillsFreePlacesFromTheFirstOn(t *testing.T) {
	f := forestOf(blocksOf(1, 4, 0, 0, 1, 5, 0, 0), leafNode(1, 0, -1, -1, -1), impl.Node{}, rootNode(2, 0, -1, 5, -1), impl.Node{}, impl.Node{}, leafNode(1, 2, -1, -1, -1))
	want := forestOf(blocksOf(1, 4, 1, 9, 1, 5, 0, 0), leafNode(1, 0, -1, -1, -1), leafNode(1, -1, 1, -1, -1),
		rootNode(1, 0, -1, 5, -1), rootNode(1, 0, 1, 5, -1), impl.Node{}, leafNode(2, 2, -1, -1, -1))
	want.Nodes[0].Refs = 2
	wantForest(t, "a leaf that was not there, a root that is shared", impl.SetTree(f, 2, 5, 9), 3, want)
}

// Both have Refs 1: no node is copied.
func TestSetTreeChangesWhatNobodyElseHas(t *testing.T) {
	f := plainForest()
	want := plainForest()
	want.Blocks[2] = impl.Block{Refs: 1, Data: 99}
	want.Nodes[0].Kids[3] = 2
	wantForest(t, "a place with nothing", impl.SetTree(f, 2, 3, 99), 2, want)
	want = plainForest()
	want.Blocks = blocksOf(2, 10, 0, 0, 1, 99, 1, 13, 1, 14, 0, 0)
	want.Nodes[0].Kids[1] = 2
	wantForest(t, "a block that nobody else has", impl.SetTree(f, 2, 1, 99), 2, want)
	want = plainForest()
	want.Blocks = blocksOf(1, 10, 1, 11, 1, 99, 1, 13, 1, 14, 0, 0)
	want.Nodes[0].Kids[0] = 2
	wantForest(t, "a block that another leaf has", impl.SetTree(f, 2, 0, 99), 2, want)
	want = plainForest()
	want.Blocks[2] = impl.Block{Refs: 1}
	want.Nodes[3] = leafNode(1, -1, 2, -1, -1)
	want.Nodes[2].Kids[3] = 3
	wantForest(t, "a leaf that was not there", impl.SetTree(f, 2, 13, 0), 2, want)
}

func TestSetTreeCopiesASharedLeaf(t *testing.T) {
	f := plainForest()
	f.Blocks[1].Refs = 2
	f.Nodes[1].Kids[0] = 1
	for _, c := range []struct {
		at   int64
		kids []int64
		refs int64 // of the block 1, which stands at the first place of the leaf
	}{{8, []int64{2, -1, 3, -1}, 2}, {9, []int64{1, 2, 3, -1}, 3}, {11, []int64{1, -1, 3, 2}, 3}} {
		want := copyForest(f)
		want.Blocks = blocksOf(2, 10, c.refs, 11, 1, 99, 2, 13, 1, 14, 0, 0)
		want.Nodes[1].Refs = 1
		want.Nodes[2].Kids[2] = 3
		want.Nodes[3] = leafNode(1, c.kids...)
		wantForest(t, "a leaf with Refs 2", impl.SetTree(f, 2, c.at, 99), 2, want)
	}
}

func TestSetTreeCopiesTheWayDownFromASharedRoot(t *testing.T) {
	f := plainForest()
	f.Nodes[2].Refs = 2
	want := copyForest(f)
	want.Blocks = blocksOf(3, 10, 1, 11, 1, 99, 1, 13, 1, 14, 0, 0)
	want.Nodes[1].Refs, want.Nodes[2].Refs = 3, 1
	want.Nodes[3] = leafNode(1, 0, 2, -1, -1)
	want.Nodes = append(want.Nodes, rootNode(1, 3, -1, 1, -1))
	wantForest(t, "a leaf with Refs 1", impl.SetTree(f, 2, 1, 99), 6, want)
	want = copyForest(f)
	want.Blocks = blocksOf(2, 10, 1, 11, 1, 99, 2, 13, 1, 14, 0, 0)
	want.Nodes[0].Refs, want.Nodes[2].Refs = 2, 1
	want.Nodes[3] = leafNode(1, 2, -1, 3, -1)
	want.Nodes = append(want.Nodes, rootNode(1, 0, -1, 3, -1))
	wantForest(t, "a leaf with Refs 2", impl.SetTree(f, 2, 8, 99), 6, want)
}

func TestSetTreeOfALeafThatTheRootHasTwice(t *testing.T) {
	f := forestOf(blocksOf(2, 9, 0, 0), rootNode(1, 1, -1, 1, -1), leafNode(2, 0, -1, -1, 0))
	want := forestOf(blocksOf(3, 9, 1, 5), rootNode(1, 2, -1, 1, -1), leafNode(1, 0, -1, -1, 0), leafNode(1, 1, -1, -1, 0))
	wantForest(t, "at its first place", impl.SetTree(f, 0, 0, 5), 0, want)
}

func TestSetTreeCodes(t *testing.T) {
	for _, root := range []int64{-1, 2, 4} {
		for at := range int64(16) {
			wantForestCode(t, "no block is free", impl.SetTree(noBlockFree(), root, at, 0), impl.ErrFull)
		}
	}
	wantForestCode(t, "no blocks at all", impl.SetTree(impl.Forest{}, -1, 0, 0), impl.ErrFull)
	full := manyNodes(60)
	full.Nodes[0].Refs, full.Blocks = 2, full.Blocks[:1]
	wantForestCode(t, "no block and no node is free", impl.SetTree(full, 2, 1, 0), impl.ErrFull)
}

func TestSetTreeWhereNoNodeIsFree(t *testing.T) {
	wantForestCode(t, "a tree where there are 60", impl.SetTree(manyNodes(60), -1, 0, 0), impl.ErrMany)
	wantForestCode(t, "a tree where there are 59", impl.SetTree(manyNodes(59), -1, 0, 0), impl.ErrMany)
	want := manyNodes(58)
	want.Blocks[1] = impl.Block{Refs: 1, Data: 4}
	want.Nodes = append(want.Nodes, leafNode(1, -1, 1, -1, -1), rootNode(1, -1, 58, -1, -1))
	wantForest(t, "a tree where there are 58", impl.SetTree(manyNodes(58), -1, 5, 4), 59, want)
	want = manyNodes(60)
	want.Blocks[1] = impl.Block{Refs: 1, Data: 4}
	want.Nodes[1].Kids[3] = 1
	wantForest(t, "nothing is copied", impl.SetTree(manyNodes(60), 2, 7, 4), 2, want)
	wantForestCode(t, "a leaf that was not there", impl.SetTree(manyNodes(60), 2, 8, 4), impl.ErrMany)
	f := manyNodes(60)
	f.Nodes[1].Refs = 2
	wantForestCode(t, "a leaf that is shared", impl.SetTree(f, 2, 7, 4), impl.ErrMany)
	f = manyNodes(59)
	f.Nodes[2].Refs = 2
	wantForestCode(t, "room for the leaf alone", impl.SetTree(f, 2, 7, 4), impl.ErrMany)
	f = manyNodes(60)
	f.Nodes[59], f.Blocks[0].Refs = impl.Node{}, 58
	want = copyForest(f)
	want.Blocks[1] = impl.Block{Refs: 1, Data: 4}
	want.Nodes[59], want.Nodes[2].Kids[2] = leafNode(1, 1, -1, -1, -1), 59
	wantForest(t, "the last place is free", impl.SetTree(f, 2, 8, 4), 2, want)
}

func TestWhereAKidHasTwoHundred(t *testing.T) {
	wantForestCode(t, "SetTree: a block at another place", impl.SetTree(oftenNamed(), 50, 0, 4), impl.ErrMany)
	wantForestCode(t, "ClearTree: a block at another place", impl.ClearTree(oftenNamed(), 50, 0), impl.ErrMany)
	f := oftenNamed()
	f.Nodes[48].Kids, f.Nodes[49].Kids = []int64{0, 0, 0, -1}, []int64{0, -1, -1, -1}
	f.Nodes = append(f.Nodes, leafNode(1, 0, 0, 0, 0))
	want := copyForest(f)
	want.Blocks[1] = impl.Block{Refs: 1, Data: 4}
	want.Nodes[49].Refs, want.Nodes[50].Kids[0] = 1, 52
	want.Nodes = append(want.Nodes, leafNode(1, 1, -1, -1, -1))
	wantForest(t, "SetTree: the block that goes", impl.SetTree(f, 50, 0, 4), 50, want)
	f = nodeBut(1, leafNode(200, -1, -1, 3, -1))
	f.Nodes[2].Refs = 2
	wantForestCode(t, "SetTree: a leaf at another place", impl.SetTree(f, 2, 0, 4), impl.ErrMany)
	wantForestCode(t, "SetTree: a leaf that was not there", impl.SetTree(f, 2, 4, 4), impl.ErrMany)
	wantForestCode(t, "ClearTree: a leaf at another place", impl.ClearTree(f, 2, 0), impl.ErrMany)
	want = copyForest(f)
	want.Blocks[2], want.Blocks[3].Refs = impl.Block{Refs: 1, Data: 4}, 2
	want.Nodes[0].Refs, want.Nodes[2].Refs = 2, 1
	want.Nodes[3] = leafNode(1, -1, 2, 3, -1)
	want.Nodes = append(want.Nodes, rootNode(1, 0, -1, 3, -1))
	wantForest(t, "SetTree: the leaf that is copied", impl.SetTree(f, 2, 9, 4), 6, want)
	f.Nodes[0].Kids, f.Blocks[1] = []int64{0, -1, -1, -1}, impl.Block{}
	wantForestCode(t, "ClearTree: a leaf that goes beside it", impl.ClearTree(f, 2, 0), impl.ErrMany)
	f.Nodes[2].Refs = 1
	want = copyForest(f)
	want.Nodes[1].Refs, want.Nodes[2].Kids[2] = 199, -1
	wantForest(t, "ClearTree: the leaf that goes", impl.ClearTree(f, 2, 10), 2, want)
}

func TestClearTreeChangesWhatNobodyElseHas(t *testing.T) {
	want := plainForest()
	want.Blocks[1] = impl.Block{}
	want.Nodes[0].Kids[1] = -1
	wantForest(t, "a block that nobody else has", impl.ClearTree(plainForest(), 2, 1), 2, want)
	want = plainForest()
	want.Blocks[0].Refs = 1
	want.Nodes[0].Kids[0] = -1
	wantForest(t, "a block that another leaf has", impl.ClearTree(plainForest(), 2, 0), 2, want)
	twice := forestOf(blocksOf(2, 9), rootNode(1, 1, -1, -1, -1), leafNode(1, 0, -1, -1, 0))
	want = forestOf(blocksOf(1, 9), rootNode(1, 1, -1, -1, -1), leafNode(1, 0, -1, -1, -1))
	wantForest(t, "a block that the leaf has twice", impl.ClearTree(twice, 0, 3), 0, want)
}

func TestClearTreeCopiesWhatIsShared(t *testing.T) {
	f := plainForest()
	f.Blocks[1].Refs = 2
	f.Nodes[1].Kids[0] = 1
	want := copyForest(f)
	want.Blocks[1].Refs = 3
	want.Nodes[1].Refs, want.Nodes[2].Kids[2] = 1, 3
	want.Nodes[3] = leafNode(1, 1, -1, -1, -1)
	wantForest(t, "a leaf with Refs 2", impl.ClearTree(f, 2, 10), 2, want)
	f = plainForest()
	f.Nodes[2].Refs = 2
	want = copyForest(f)
	want.Blocks[0].Refs = 3
	want.Nodes[1].Refs, want.Nodes[2].Refs = 3, 1
	want.Nodes[3] = leafNode(1, 0, -1, -1, -1)
	want.Nodes = append(want.Nodes, rootNode(1, 3, -1, 1, -1))
	wantForest(t, "a root with Refs 2", impl.ClearTree(f, 2, 1), 6, want)
}

func TestTheLastBlockTakesItsLeafWithIt(t *testing.T) {
	f := plainForest()
	f.Nodes[0].Kids, f.Blocks[1] = []int64{0, -1, -1, -1}, impl.Block{}
	want := copyForest(f)
	want.Blocks[0].Refs = 1
	want.Nodes[0], want.Nodes[2].Kids[0] = impl.Node{}, -1
	wantForest(t, "a leaf that nobody else has", impl.ClearTree(f, 2, 0), 2, want)
	want = copyForest(f)
	want.Nodes[1].Refs, want.Nodes[2].Kids[2] = 1, -1
	wantForest(t, "a leaf that is shared", impl.ClearTree(f, 2, 10), 2, want)
	f.Nodes[2].Refs = 2
	want = copyForest(f)
	want.Nodes[1].Refs, want.Nodes[2].Refs = 3, 1
	want.Nodes[3] = rootNode(1, -1, -1, 1, -1)
	wantForest(t, "a leaf of a root that is shared: just the root is copied", impl.ClearTree(f, 2, 0), 3, want)
}

func TestTheLastLeafTakesItsRootWithIt(t *testing.T) {
	one := func(rootRefs, leafRefs, blockRefs int64) impl.Forest {
		f := forestOf(blocksOf(blockRefs, 8, 0, 0), leafNode(leafRefs, -1, -1, 0, -1), rootNode(rootRefs, -1, 0, -1, -1))
		if blockRefs == 2 {
			f.Nodes = append(f.Nodes, leafNode(1, 0, -1, -1, -1))
		}
		return f
	}
	wantForest(t, "nobody else has any", impl.ClearTree(one(1, 1, 1), 1, 6), -1, forestOf(make([]impl.Block, 2), make([]impl.Node, 2)...))
	wantForest(t, "the block is shared", impl.ClearTree(one(1, 1, 2), 1, 6), -1, forestOf(blocksOf(1, 8, 0, 0), impl.Node{}, impl.Node{}, leafNode(1, 0, -1, -1, -1)))
	wantForest(t, "the leaf is shared", impl.ClearTree(one(1, 2, 1), 1, 6), -1, forestOf(blocksOf(1, 8, 0, 0), leafNode(1, -1, -1, 0, -1), impl.Node{}))
	wantForest(t, "the root is shared", impl.ClearTree(one(2, 1, 1), 1, 6), -1, one(1, 1, 1))
	wantForest(t, "the root has 200", impl.ClearTree(one(200, 200, 1), 1, 6), -1, one(199, 200, 1))
}

func TestClearTreeWhereNoNodeIsFree(t *testing.T) {
	f := manyNodes(60)
	f.Nodes[1].Refs = 2
	f.Nodes[1].Kids[1], f.Blocks[0].Refs = 0, 60
	wantForestCode(t, "a leaf that is shared", impl.ClearTree(f, 2, 4), impl.ErrMany)
	f.Nodes[1].Kids[1], f.Blocks[0].Refs = -1, 59
	want := copyForest(f)
	want.Nodes[1].Refs, want.Nodes[2].Kids[1] = 1, -1
	wantForest(t, "a leaf that is shared and goes", impl.ClearTree(f, 2, 4), 2, want)
	f.Nodes[2].Refs = 2
	wantForestCode(t, "a root that is shared", impl.ClearTree(f, 2, 4), impl.ErrMany)
	f.Nodes[2].Kids[0] = -1
	want = copyForest(f)
	want.Nodes[2].Refs = 1
	wantForest(t, "a root that is shared and goes", impl.ClearTree(f, 2, 4), -1, want)
	f = manyNodes(59)
	f.Nodes[2].Refs = 2
	want = copyForest(f)
	want.Nodes[0].Refs, want.Nodes[2].Refs = 2, 1
	want.Nodes = append(want.Nodes, rootNode(1, 0, -1, -1, -1))
	wantForest(t, "room for the root, and no leaf is copied", impl.ClearTree(f, 2, 4), 59, want)
	f.Nodes[1].Kids[1], f.Blocks[0].Refs = 0, 59
	wantForestCode(t, "room for the leaf alone", impl.ClearTree(f, 2, 4), impl.ErrMany)
}
