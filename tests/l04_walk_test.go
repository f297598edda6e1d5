package tests

import (
	"slices"
	"testing"

	"loop.example/g00277/impl"
)

// cellTable is what a tree has at each place, -1 where it has nothing.
type cellTable [16]int64

func emptyTable() cellTable {
	var c cellTable
	for i := range c {
		c[i] = -1
	}
	return c
}

func (c cellTable) walk() []int64 {
	var list []int64
	for at, data := range c {
		if data != -1 {
			list = append(list, int64(at), data)
		}
	}
	return list
}

// treeWalk is a forest, and beside it for each root that somebody has what must be read in its tree.
type treeWalk struct {
	forest impl.Forest
	roots  []int64
	tables []cellTable
}

func (w *treeWalk) drop(i int) {
	w.roots = slices.Delete(w.roots, i, i+1)
	w.tables = slices.Delete(w.tables, i, i+1)
}

func (w *treeWalk) add(root int64, table cellTable) {
	w.roots = append(w.roots, root)
	w.tables = append(w.tables, table)
}

// waysDown tells whether the root and the leaf of a place are there, and whether one alone has them.
func (w *treeWalk) waysDown(root, at int64) (hasLeaf, ownRoot, ownLeaf bool) {
	if root == -1 {
		return false, false, false
	}
	n := w.forest.Nodes[root]
	leaf := n.Kids[at/4]
	return leaf != -1, n.Refs == 1, leaf != -1 && w.forest.Nodes[leaf].Refs == 1
}

func usedNodes(f impl.Forest) int {
	n := 0
	for _, node := range f.Nodes {
		if node.Refs > 0 {
			n++
		}
	}
	return n
}

// newNodes is how many nodes setting a place must copy or add.
func (w *treeWalk) newNodes(root, at int64) int {
	hasLeaf, ownRoot, ownLeaf := w.waysDown(root, at)
	switch {
	case hasLeaf && ownRoot && ownLeaf:
		return 0
	case ownRoot:
		return 1
	}
	return 2
}

func (w *treeWalk) set(t *testing.T, i int, at, data int64) {
	t.Helper()
	got := impl.SetTree(w.forest, w.roots[i], at, data)
	more := w.newNodes(w.roots[i], at)
	switch {
	case firstFree(w.forest.Blocks) < 0:
		wantForestCode(t, "SetTree, no block is free", got, impl.ErrFull)
		return
	case usedNodes(w.forest)+more > impl.MaxNodes:
		wantForestCode(t, "SetTree, no node is free", got, impl.ErrMany)
		return
	}
	if used := usedNodes(got.Forest); got.Code != impl.OK || used != usedNodes(w.forest)+more {
		t.Fatalf("SetTree(%v, %d, %d, %d): got %v with %d nodes, want %d more than %d", w.forest, w.roots[i], at, data, got, used, more, usedNodes(w.forest))
	}
	w.forest, w.roots[i] = got.Forest, got.Root
	w.tables[i][at] = data
}

func (w *treeWalk) clear(t *testing.T, i int, at int64) {
	t.Helper()
	got := impl.ClearTree(w.forest, w.roots[i], at)
	if w.tables[i][at] == -1 {
		wantForestCode(t, "ClearTree of nothing", got, impl.ErrNone)
		return
	}
	if got.Code == impl.ErrMany && usedNodes(w.forest)+w.newNodes(w.roots[i], at) > impl.MaxNodes {
		wantForestCode(t, "ClearTree, no node is free", got, impl.ErrMany)
		return
	}
	if got.Code != impl.OK {
		t.Fatalf("ClearTree(%v, %d, %d): got %v", w.forest, w.roots[i], at, got)
	}
	w.forest, w.roots[i] = got.Forest, got.Root
	w.tables[i][at] = -1
	if (w.tables[i] == emptyTable()) != (got.Root == -1) {
		t.Fatalf("ClearTree: root %d of the tree %v", got.Root, w.tables[i])
	}
}

func (w *treeWalk) step(t *testing.T, x *dice) {
	t.Helper()
	i := int(x.upTo(int64(len(w.roots))))
	switch k := x.upTo(20); {
	case k < 9:
		w.set(t, i, x.upTo(16), x.upTo(256))
	case k < 16:
		w.clear(t, i, x.upTo(16))
	case k < 18 && len(w.roots) < 12:
		got := impl.ShareTree(w.forest, w.roots[i])
		if got.Code != impl.OK || got.Root != w.roots[i] {
			t.Fatalf("ShareTree(%v, %d): got %v", w.forest, w.roots[i], got)
		}
		w.forest = got.Forest
		w.add(got.Root, w.tables[i])
	case k == 18 && len(w.roots) > 1:
		got := impl.DropTree(w.forest, w.roots[i])
		if got.Code != impl.OK || got.Root != -1 {
			t.Fatalf("DropTree(%v, %d): got %v", w.forest, w.roots[i], got)
		}
		w.forest = got.Forest
		w.drop(i)
	case k == 19 && len(w.roots) < 12:
		w.add(-1, emptyTable())
	}
}

// refsOf counts from scratch how many refer to each node and to each block.
func (w *treeWalk) refsOf() (nodes, blocks []int64) {
	nodes, blocks = make([]int64, len(w.forest.Nodes)), make([]int64, len(w.forest.Blocks))
	for _, root := range w.roots {
		if root != -1 {
			nodes[root]++
		}
	}
	for _, n := range w.forest.Nodes {
		for _, kid := range n.Kids {
			switch {
			case kid == -1:
			case n.Leaf:
				blocks[kid]++
			default:
				nodes[kid]++
			}
		}
	}
	return nodes, blocks
}

func (w *treeWalk) check(t *testing.T) {
	t.Helper()
	if code := impl.ForestFault(w.forest); code != impl.OK {
		t.Fatalf("%v has the fault %d", w.forest, code)
	}
	for i, root := range w.roots {
		if got := impl.WalkTree(w.forest, root); got.Code != impl.OK || !slices.Equal(got.List, w.tables[i].walk()) {
			t.Fatalf("%v: the tree at %d is %v, want %v", w.forest, root, got, w.tables[i].walk())
		}
		for at, data := range w.tables[i] {
			want := impl.IntResult{Value: data}
			if data == -1 {
				want = impl.IntResult{Code: impl.ErrNone}
			}
			if got := impl.LookTree(w.forest, root, int64(at)); got != want {
				t.Fatalf("%v: the tree at %d has %v at %d, want %v", w.forest, root, got, at, want)
			}
		}
	}
	nodes, blocks := w.refsOf()
	for i, n := range w.forest.Nodes {
		if n.Refs != nodes[i] {
			t.Fatalf("%v, of roots %v: node %d has Refs %d, want %d", w.forest, w.roots, i, n.Refs, nodes[i])
		}
	}
	for i, b := range w.forest.Blocks {
		if b.Refs != blocks[i] {
			t.Fatalf("%v: block %d has Refs %d, want %d", w.forest, i, b.Refs, blocks[i])
		}
	}
}

// A walk of all changes beside tables of cells: each changes one tree, and no other.
func TestForestWalk(t *testing.T) {
	x := &dice{state: 4}
	for _, blocks := range []int64{0, 1, 3, 9, 24} {
		w := &treeWalk{forest: impl.NewForest(blocks).Forest}
		w.add(-1, emptyTable())
		for range 1500 {
			w.step(t, x)
			w.check(t)
		}
		for len(w.roots) > 0 {
			w.forest = impl.DropTree(w.forest, w.roots[0]).Forest
			w.drop(0)
			w.check(t)
		}
		if usedNodes(w.forest) != 0 || impl.FreeOf(w.forest.Blocks).Value != blocks {
			t.Fatalf("all trees are dropped, and there is %v", w.forest)
		}
	}
}

func TestATreeThatIsSharedIsDroppedAsOften(t *testing.T) {
	made := impl.SetTree(impl.NewForest(3).Forest, -1, 9, 5)
	f := made.Forest
	for range 199 {
		f = impl.ShareTree(f, made.Root).Forest
	}
	wantForestCode(t, "shared once too often", impl.ShareTree(f, made.Root), impl.ErrMany)
	for range 199 {
		f = impl.DropTree(f, made.Root).Forest
		wantInts(t, "somebody still has it", impl.WalkTree(f, made.Root), impl.OK, []int64{9, 5})
	}
	wantForest(t, "dropped by all", impl.DropTree(f, made.Root), -1, forestOf(make([]impl.Block, 3), make([]impl.Node, 2)...))
	wantForestCode(t, "dropped once too often", impl.DropTree(impl.DropTree(f, made.Root).Forest, made.Root), impl.ErrRange)
}
