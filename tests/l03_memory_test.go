package tests

import (
	"slices"
	"testing"

	"loop.example/g00277/impl"
)

// roomyBlocks has room behind its end, where a careless append would write.
func roomyBlocks() []impl.Block {
	return append(make([]impl.Block, 0, 30), impl.Block{Refs: 2, Data: 7}, impl.Block{}, impl.Block{Refs: 1, Data: 8})
}

func scribbleBlocks(list []impl.Block) {
	whole := list[:cap(list)]
	for i := range whole {
		whole[i] = impl.Block{Refs: -77, Data: -77}
	}
}

// blockCalls are all functions that answer with blocks, each at arguments that tell no code.
func blockCalls() map[string]func(list []impl.Block) impl.BlocksResult {
	return map[string]func(list []impl.Block) impl.BlocksResult{
		"NewBlocks":               func(list []impl.Block) impl.BlocksResult { return impl.NewBlocks(int64(len(list))) },
		"TakeBlock":               func(list []impl.Block) impl.BlocksResult { return impl.TakeBlock(list, 5) },
		"ShareBlock":              func(list []impl.Block) impl.BlocksResult { return impl.ShareBlock(list, 2) },
		"DropBlock":               func(list []impl.Block) impl.BlocksResult { return impl.DropBlock(list, 0) },
		"DropBlock, the last one": func(list []impl.Block) impl.BlocksResult { return impl.DropBlock(list, 2) },
	}
}

func TestBlockCallsChangeNoArgument(t *testing.T) {
	list := roomyBlocks()
	ahead := slices.Clone(list[:cap(list)])
	for name, call := range blockCalls() {
		if call(list).Code != impl.OK || !slices.Equal(list[:cap(list)], ahead) {
			t.Errorf("%s: changed to %v", name, list[:cap(list)])
		}
	}
	impl.BlocksFault(list)
	impl.FreeOf(list)
	if !slices.Equal(list[:cap(list)], ahead) {
		t.Errorf("changed to %v", list[:cap(list)])
	}
}

func TestBlockCodesChangeNoArgument(t *testing.T) {
	cases := append(faultyBlocks(), blocksCase{"none is free", takenUpTo(24), impl.OK}, blocksCase{"200", []impl.Block{{Refs: 200}, {}}, impl.OK})
	for _, c := range cases {
		ahead := slices.Clone(c.list)
		impl.BlocksFault(c.list)
		impl.FreeOf(c.list)
		for _, n := range []int64{-1, 0, 1, 256} {
			impl.TakeBlock(c.list, n)
			impl.ShareBlock(c.list, n)
			impl.DropBlock(c.list, n)
		}
		if !slices.Equal(c.list, ahead) {
			t.Errorf("%s: changed", c.name)
		}
	}
}

func TestBlockAnswersShareNoMemory(t *testing.T) {
	for name, call := range blockCalls() {
		list := roomyBlocks()
		ahead := slices.Clone(list[:cap(list)])
		got := call(list)
		want := slices.Clone(got.Blocks)
		scribbleBlocks(got.Blocks)
		if !slices.Equal(list[:cap(list)], ahead) {
			t.Errorf("%s: what is written into its answer is in its argument", name)
		}
		got = call(list)
		scribbleBlocks(list)
		if !slices.Equal(got.Blocks, want) {
			t.Errorf("%s: what is written into its argument is in its answer", name)
		}
		if again := call(roomyBlocks()); !slices.Equal(again.Blocks, want) || again.At != got.At {
			t.Errorf("%s: another answer at the same arguments: %v", name, again)
		}
	}
}
