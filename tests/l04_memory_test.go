package tests

import (
	"slices"
	"testing"

	"loop.example/g00277/impl"
)

// roomyForest has room behind the end of each list, where a careless append would write.
func roomyForest() impl.Forest {
	f := plainForest()
	f.Nodes[2].Refs = 2
	for i := range f.Nodes {
		f.Nodes[i].Kids = append(make([]int64, 0, 9), f.Nodes[i].Kids...)
	}
	f.Nodes = append(make([]impl.Node, 0, 70), f.Nodes...)
	f.Blocks = append(make([]impl.Block, 0, 30), f.Blocks...)
	return f
}

// wholeForest has what stands behind the ends of the lists as well.
func wholeForest(f impl.Forest) impl.Forest {
	nodes := slices.Clone(f.Nodes[:cap(f.Nodes)])
	for i := range nodes {
		nodes[i].Kids = slices.Clone(nodes[i].Kids[:cap(nodes[i].Kids)])
	}
	return impl.Forest{Nodes: nodes, Blocks: slices.Clone(f.Blocks[:cap(f.Blocks)])}
}

func scribbleForest(f impl.Forest) {
	nodes := f.Nodes[:cap(f.Nodes)]
	for i := range nodes {
		all := nodes[i].Kids[:cap(nodes[i].Kids)]
		for j := range all {
			all[j] = -77
		}
		nodes[i] = impl.Node{Refs: -77, Leaf: true, Kids: all}
	}
	scribbleBlocks(f.Blocks)
}

// forestCalls are all functions that answer with a forest, each at arguments that tell no code.
func forestCalls() map[string]func(f impl.Forest) impl.ForestResult {
	return map[string]func(f impl.Forest) impl.ForestResult{
		"NewForest":                 func(f impl.Forest) impl.ForestResult { return impl.NewForest(int64(len(f.Blocks))) },
		"SetTree, no tree":          func(f impl.Forest) impl.ForestResult { return impl.SetTree(f, -1, 9, 3) },
		"SetTree, all copied":       func(f impl.Forest) impl.ForestResult { return impl.SetTree(f, 2, 1, 3) },
		"SetTree, a leaf copied":    func(f impl.Forest) impl.ForestResult { return impl.SetTree(f, 4, 5, 3) },
		"SetTree, nothing copied":   func(f impl.Forest) impl.ForestResult { return impl.SetTree(f, 4, 12, 3) },
		"ClearTree, all copied":     func(f impl.Forest) impl.ForestResult { return impl.ClearTree(f, 2, 1) },
		"ClearTree, a leaf goes":    func(f impl.Forest) impl.ForestResult { return impl.ClearTree(f, 4, 6) },
		"ClearTree, the root alone": func(f impl.Forest) impl.ForestResult { return impl.ClearTree(f, 2, 10) },
		"ClearTree, nothing copied": func(f impl.Forest) impl.ForestResult { return impl.ClearTree(f, 4, 12) },
		"ShareTree":                 func(f impl.Forest) impl.ForestResult { return impl.ShareTree(f, 2) },
		"ShareTree, no tree":        func(f impl.Forest) impl.ForestResult { return impl.ShareTree(f, -1) },
		"DropTree":                  func(f impl.Forest) impl.ForestResult { return impl.DropTree(f, 4) },
		"DropTree, one is left":     func(f impl.Forest) impl.ForestResult { return impl.DropTree(f, 2) },
		"DropTree, no tree":         func(f impl.Forest) impl.ForestResult { return impl.DropTree(f, -1) },
	}
}

func askForest(f impl.Forest, root, at, data int64) {
	impl.ForestFault(f)
	impl.LookTree(f, root, at)
	impl.WalkTree(f, root)
	impl.SetTree(f, root, at, data)
	impl.ClearTree(f, root, at)
	impl.ShareTree(f, root)
	impl.DropTree(f, root)
}

func TestTreeCallsChangeNoArgument(t *testing.T) {
	f := roomyForest()
	ahead := wholeForest(f)
	for name, call := range forestCalls() {
		if got := call(f); got.Code != impl.OK || !sameForest(wholeForest(f), ahead) {
			t.Errorf("%s: code %d, changed to %v", name, got.Code, wholeForest(f))
		}
	}
	for _, root := range []int64{-2, -1, 0, 2, 3, 4, 6} {
		for at := int64(-1); at <= 16; at++ {
			askForest(f, root, at, 256-at)
			askForest(f, root, at, at)
		}
	}
	if !sameForest(wholeForest(f), ahead) {
		t.Errorf("changed to %v", wholeForest(f))
	}
}

func TestTreeCodesChangeNoArgument(t *testing.T) {
	cases := append(faultyForests(), soundForests()...)
	cases = append(cases, forestCase{"no block is free", noBlockFree(), impl.OK})
	for _, c := range cases {
		ahead := copyForest(c.forest)
		for _, root := range []int64{-2, -1, 0, 1, 2, 50, 61} {
			for _, at := range []int64{-1, 0, 15, 16} {
				askForest(c.forest, root, at, 0)
			}
		}
		if !sameForest(c.forest, ahead) {
			t.Errorf("%s: changed", c.name)
		}
	}
}

func TestForestAnswersShareNoMemory(t *testing.T) {
	for name, call := range forestCalls() {
		f := roomyForest()
		ahead := wholeForest(f)
		got := call(f)
		want := copyForest(got.Forest)
		scribbleForest(got.Forest)
		if !sameForest(wholeForest(f), ahead) {
			t.Errorf("%s: what is written into its answer is in its argument", name)
		}
		got = call(f)
		scribbleForest(f)
		if !sameForest(got.Forest, want) {
			t.Errorf("%s: what is written into its argument is in its answer", name)
		}
		if again := call(roomyForest()); !sameForest(again.Forest, want) || again.Root != got.Root {
			t.Errorf("%s: another answer at the same arguments: %v", name, again)
		}
	}
}

// Kids of one node are written over, up to the end of their room: those of the others must stay.
func TestNodesOfAnAnswerShareNoMemory(t *testing.T) {
	for name, call := range forestCalls() {
		want := call(roomyForest()).Forest
		for i := range want.Nodes {
			got := call(roomyForest()).Forest
			all := got.Nodes[i].Kids[:cap(got.Nodes[i].Kids)]
			for j := range all {
				all[j] = -77
			}
			got.Nodes[i] = want.Nodes[i]
			if !sameForest(got, want) {
				t.Errorf("%s: the Kids of the node %d are those of another one", name, i)
			}
		}
	}
}

func TestWalksShareNoMemory(t *testing.T) {
	f := roomyForest()
	ahead := wholeForest(f)
	scribble := impl.WalkTree(f, 2).List
	for i := range scribble {
		scribble[i] = -77
	}
	if !sameForest(wholeForest(f), ahead) {
		t.Errorf("changed to %v", wholeForest(f))
	}
	wantInts(t, "once more", impl.WalkTree(f, 2), impl.OK, []int64{0, 10, 1, 11, 10, 13})
}
