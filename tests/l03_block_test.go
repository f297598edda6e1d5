package tests

import (
	"math"
	"slices"
	"testing"

	"loop.example/g00277/impl"
)

// takenUpTo has n blocks that are all taken and differ from each other.
func takenUpTo(n int) []impl.Block {
	list := make([]impl.Block, n)
	for i := range n {
		list[i] = impl.Block{Refs: int64(1 + i*8), Data: int64(255 - i*11)}
	}
	return list
}

// blocksBut has n taken blocks, but for the one at a place.
func blocksBut(n int, at int, b impl.Block) []impl.Block {
	list := takenUpTo(n)
	list[at] = b
	return list
}

func sameBlocks(a, b impl.BlocksResult) bool {
	return a.Code == b.Code && a.At == b.At && slices.Equal(a.Blocks, b.Blocks)
}

func wantBlocks(t *testing.T, name string, got impl.BlocksResult, at int64, list []impl.Block) {
	t.Helper()
	if !sameBlocks(got, impl.BlocksResult{At: at, Blocks: list}) {
		t.Errorf("%s: got %v, want at %d, blocks %v", name, got, at, list)
	}
	if code := impl.BlocksFault(got.Blocks); code != impl.OK {
		t.Errorf("%s: the answer %v has the fault %d", name, got, code)
	}
}

func wantBlocksCode(t *testing.T, name string, got impl.BlocksResult, code int64) {
	t.Helper()
	if !sameBlocks(got, impl.BlocksResult{Code: code}) {
		t.Errorf("%s: got %v, want the code %d and nothing else", name, got, code)
	}
}

type blocksCase struct {
	name string
	list []impl.Block
	code int64
}

func faultyBlocks() []blocksCase {
	wrong := []blocksCase{
		{"25 taken", blocksBut(25, 24, impl.Block{Refs: 1}), impl.ErrMany},
		{"25 free", make([]impl.Block, 25), impl.ErrMany},
		{"1000 free", make([]impl.Block, 1000), impl.ErrMany},
		{"25 ahead of a wrong one", append(make([]impl.Block, 24), impl.Block{Refs: -1}), impl.ErrMany},
		{"25 ahead of wrong data", slices.Repeat([]impl.Block{{Refs: 0, Data: 1}}, 25), impl.ErrMany},
		{"the range of one ahead of its form", []impl.Block{{Refs: 0, Data: 256}}, impl.ErrRange},
		{"form of the first, range of the next", []impl.Block{{Refs: 0, Data: 1}, {Refs: 201}}, impl.ErrForm},
		{"range of the first, form of the next", []impl.Block{{Refs: 201}, {Refs: 0, Data: 1}}, impl.ErrRange},
		{"form of the one but last, range of the last", append(takenUpTo(22), impl.Block{Data: 9}, impl.Block{Refs: -1}), impl.ErrForm},
	}
	for _, b := range []impl.Block{
		{Refs: -1}, {Refs: 201}, {Refs: math.MinInt64}, {Refs: math.MaxInt64}, {Refs: -1, Data: 5}, {Refs: 201, Data: 255},
		{Refs: 1, Data: -1}, {Refs: 200, Data: 256}, {Refs: 1, Data: math.MinInt64}, {Refs: 1, Data: math.MaxInt64},
		{Refs: 0, Data: -1}, {Refs: 0, Data: math.MinInt64}, {Refs: 0, Data: math.MaxInt64}, {Refs: math.MaxInt64, Data: math.MinInt64},
	} {
		wrong = append(wrong,
			blocksCase{"one of a wrong range", []impl.Block{b}, impl.ErrRange},
			blocksCase{"the first of a wrong range", blocksBut(24, 0, b), impl.ErrRange},
			blocksCase{"the last of a wrong range", blocksBut(24, 23, b), impl.ErrRange})
	}
	for _, data := range []int64{1, 7, 255} {
		wrong = append(wrong,
			blocksCase{"one that is free, with data", []impl.Block{{Data: data}}, impl.ErrForm},
			blocksCase{"the first is free, with data", blocksBut(24, 0, impl.Block{Data: data}), impl.ErrForm},
			blocksCase{"the last is free, with data", blocksBut(24, 23, impl.Block{Data: data}), impl.ErrForm})
	}
	return wrong
}

func soundBlocks() []blocksCase {
	sound := []blocksCase{
		{"nil", nil, impl.OK},
		{"none", []impl.Block{}, impl.OK},
		{"23 taken", takenUpTo(23), impl.OK},
		{"24 taken", takenUpTo(24), impl.OK},
		{"24 free", make([]impl.Block, 24), impl.OK},
		{"free and taken", []impl.Block{{}, {Refs: 3, Data: 4}, {}}, impl.OK},
	}
	for _, b := range []impl.Block{{}, {Refs: 1}, {Refs: 1, Data: 255}, {Refs: 200}, {Refs: 200, Data: 255}} {
		sound = append(sound,
			blocksCase{"one at the edges", []impl.Block{b}, impl.OK},
			blocksCase{"the last at the edges", blocksBut(24, 23, b), impl.OK})
	}
	return sound
}

func TestBlocksFault(t *testing.T) {
	for _, c := range append(faultyBlocks(), soundBlocks()...) {
		if got := impl.BlocksFault(c.list); got != c.code {
			t.Errorf("%s: %v: got %d, want %d", c.name, c.list, got, c.code)
		}
	}
}

// The other arguments are wrong as well in half of the calls: the fault of the blocks is asked ahead of them.
func TestBlocksFaultComesFirst(t *testing.T) {
	for _, c := range faultyBlocks() {
		wantBlocksCode(t, c.name+": TakeBlock", impl.TakeBlock(c.list, 0), c.code)
		wantBlocksCode(t, c.name+": TakeBlock of 256", impl.TakeBlock(c.list, 256), c.code)
		wantBlocksCode(t, c.name+": ShareBlock", impl.ShareBlock(c.list, 0), c.code)
		wantBlocksCode(t, c.name+": ShareBlock at -1", impl.ShareBlock(c.list, -1), c.code)
		wantBlocksCode(t, c.name+": DropBlock", impl.DropBlock(c.list, 0), c.code)
		wantBlocksCode(t, c.name+": DropBlock behind all", impl.DropBlock(c.list, int64(len(c.list))), c.code)
		wantInt(t, c.name+": FreeOf", impl.FreeOf(c.list), c.code, 0)
	}
}

func TestNewBlocks(t *testing.T) {
	for n := range int64(25) {
		got := impl.NewBlocks(n)
		wantBlocks(t, "NewBlocks", got, 0, make([]impl.Block, n))
		wantInt(t, "FreeOf new ones", impl.FreeOf(got.Blocks), impl.OK, n)
	}
	for _, n := range []int64{-1, 25, 26, math.MinInt64, math.MaxInt64, 1 << 32} {
		wantBlocksCode(t, "NewBlocks of a wrong number", impl.NewBlocks(n), impl.ErrRange)
	}
}

func TestTakeBlockTakesTheFirstFreeOne(t *testing.T) {
	list := []impl.Block{{Refs: 2, Data: 8}, {}, {Refs: 200, Data: 255}, {}, {Refs: 1}}
	got := impl.TakeBlock(list, 0)
	wantBlocks(t, "of 0", got, 1, []impl.Block{{Refs: 2, Data: 8}, {Refs: 1, Data: 0}, {Refs: 200, Data: 255}, {}, {Refs: 1}})
	got = impl.TakeBlock(got.Blocks, 255)
	wantBlocks(t, "of 255", got, 3, []impl.Block{{Refs: 2, Data: 8}, {Refs: 1, Data: 0}, {Refs: 200, Data: 255}, {Refs: 1, Data: 255}, {Refs: 1}})
	wantBlocksCode(t, "none left", impl.TakeBlock(got.Blocks, 3), impl.ErrFull)
	for at := range 24 {
		want := blocksBut(24, at, impl.Block{Refs: 1, Data: 77})
		wantBlocks(t, "the one that is free", impl.TakeBlock(blocksBut(24, at, impl.Block{}), 77), int64(at), want)
	}
}

func TestTakeBlockTakesAllDataExactly(t *testing.T) {
	for data := range int64(256) {
		wantBlocks(t, "TakeBlock", impl.TakeBlock([]impl.Block{{}, {}}, data), 0, []impl.Block{{Refs: 1, Data: data}, {}})
	}
}

func TestTakeBlockCodes(t *testing.T) {
	for _, data := range []int64{-1, 256, math.MinInt64, math.MaxInt64} {
		wantBlocksCode(t, "wrong data", impl.TakeBlock(make([]impl.Block, 3), data), impl.ErrRange)
		wantBlocksCode(t, "wrong data where none is free", impl.TakeBlock(takenUpTo(3), data), impl.ErrRange)
		wantBlocksCode(t, "wrong data where there is none", impl.TakeBlock(nil, data), impl.ErrRange)
	}
	for _, data := range []int64{0, 1, 255} {
		wantBlocksCode(t, "no blocks", impl.TakeBlock(nil, data), impl.ErrFull)
		wantBlocksCode(t, "an empty list", impl.TakeBlock([]impl.Block{}, data), impl.ErrFull)
		wantBlocksCode(t, "one that is taken", impl.TakeBlock([]impl.Block{{Refs: 1}}, data), impl.ErrFull)
		wantBlocksCode(t, "24 that are taken", impl.TakeBlock(takenUpTo(24), data), impl.ErrFull)
	}
}

func TestShareBlock(t *testing.T) {
	for _, refs := range []int64{1, 2, 198, 199} {
		for _, at := range []int{0, 11, 23} {
			list := blocksBut(24, at, impl.Block{Refs: refs, Data: 9})
			want := blocksBut(24, at, impl.Block{Refs: refs + 1, Data: 9})
			wantBlocks(t, "ShareBlock", impl.ShareBlock(list, int64(at)), int64(at), want)
		}
	}
	wantBlocks(t, "data 0 stays", impl.ShareBlock([]impl.Block{{Refs: 1}}, 0), 0, []impl.Block{{Refs: 2}})
	wantBlocks(t, "data 255 stays", impl.ShareBlock([]impl.Block{{Refs: 1, Data: 255}}, 0), 0, []impl.Block{{Refs: 2, Data: 255}})
}

func TestDropBlock(t *testing.T) {
	for _, at := range []int{0, 11, 23} {
		for _, refs := range []int64{2, 3, 199, 200} {
			list := blocksBut(24, at, impl.Block{Refs: refs, Data: 9})
			want := blocksBut(24, at, impl.Block{Refs: refs - 1, Data: 9})
			wantBlocks(t, "DropBlock", impl.DropBlock(list, int64(at)), int64(at), want)
		}
		for _, data := range []int64{0, 1, 255} {
			list := blocksBut(24, at, impl.Block{Refs: 1, Data: data})
			wantBlocks(t, "the last one", impl.DropBlock(list, int64(at)), int64(at), blocksBut(24, at, impl.Block{}))
		}
	}
}

func TestShareAndDropCodes(t *testing.T) {
	for name, call := range map[string]func(list []impl.Block, at int64) impl.BlocksResult{
		"ShareBlock": impl.ShareBlock, "DropBlock": impl.DropBlock,
	} {
		for _, list := range [][]impl.Block{nil, make([]impl.Block, 3), takenUpTo(3), takenUpTo(24), {{Refs: 200}}} {
			for _, at := range []int64{-1, int64(len(list)), int64(len(list)) + 1, math.MinInt64, math.MaxInt64} {
				wantBlocksCode(t, name+" at no place", call(list, at), impl.ErrRange)
			}
		}
		for at := range 24 {
			wantBlocksCode(t, name+" of a free one", call(blocksBut(24, at, impl.Block{}), int64(at)), impl.ErrNone)
		}
	}
	for _, at := range []int{0, 23} {
		list := blocksBut(24, at, impl.Block{Refs: 200, Data: 3})
		wantBlocksCode(t, "ShareBlock of 200", impl.ShareBlock(list, int64(at)), impl.ErrMany)
	}
}

func TestFreeOf(t *testing.T) {
	for _, c := range []struct {
		list []impl.Block
		want int64
	}{
		{nil, 0}, {[]impl.Block{{}}, 1}, {[]impl.Block{{Refs: 1}}, 0}, {[]impl.Block{{Refs: 200, Data: 1}}, 0},
		{[]impl.Block{{}, {Refs: 1}, {}, {Refs: 2, Data: 5}}, 2},
		{takenUpTo(24), 0}, {make([]impl.Block, 24), 24}, {blocksBut(24, 23, impl.Block{}), 1},
	} {
		wantInt(t, "FreeOf", impl.FreeOf(c.list), impl.OK, c.want)
	}
}

func TestASharedBlockStaysUntilAllDroppedIt(t *testing.T) {
	got := impl.TakeBlock([]impl.Block{{}, {}}, 42)
	for n := range int64(199) {
		got = impl.ShareBlock(got.Blocks, 0)
		wantBlocks(t, "shared", got, 0, []impl.Block{{Refs: n + 2, Data: 42}, {}})
	}
	wantBlocksCode(t, "shared once too often", impl.ShareBlock(got.Blocks, 0), impl.ErrMany)
	for n := range int64(199) {
		got = impl.DropBlock(got.Blocks, 0)
		wantBlocks(t, "dropped", got, 0, []impl.Block{{Refs: 199 - n, Data: 42}, {}})
		wantInt(t, "FreeOf while it is taken", impl.FreeOf(got.Blocks), impl.OK, 1)
		if next := impl.TakeBlock(got.Blocks, 1); next.At != 1 {
			t.Errorf("what is still taken was taken: %v", next)
		}
	}
	got = impl.DropBlock(got.Blocks, 0)
	wantBlocks(t, "dropped by all", got, 0, []impl.Block{{}, {}})
	wantInt(t, "FreeOf then", impl.FreeOf(got.Blocks), impl.OK, 2)
	wantBlocksCode(t, "dropped once too often", impl.DropBlock(got.Blocks, 0), impl.ErrNone)
	wantBlocks(t, "taken again", impl.TakeBlock(got.Blocks, 0), 0, []impl.Block{{Refs: 1}, {}})
}

func firstFree(list []impl.Block) int {
	return slices.IndexFunc(list, func(b impl.Block) bool { return b.Refs == 0 })
}

// stepOfBlocks does one call, and tells what it must answer, worked out on plain counts.
func stepOfBlocks(x *dice, list []impl.Block) (got, want impl.BlocksResult) {
	at := x.upTo(int64(len(list))+2) - 1
	next := slices.Clone(list)
	inside := at >= 0 && at < int64(len(list))
	switch k := x.upTo(3); {
	case k == 0:
		data := x.upTo(258) - 1
		free := firstFree(list)
		switch {
		case data < 0 || data > 255:
			return impl.TakeBlock(list, data), impl.BlocksResult{Code: impl.ErrRange}
		case free < 0:
			return impl.TakeBlock(list, data), impl.BlocksResult{Code: impl.ErrFull}
		}
		next[free] = impl.Block{Refs: 1, Data: data}
		return impl.TakeBlock(list, data), impl.BlocksResult{At: int64(free), Blocks: next}
	case k == 1:
		switch {
		case !inside:
			return impl.ShareBlock(list, at), impl.BlocksResult{Code: impl.ErrRange}
		case list[at].Refs == 0:
			return impl.ShareBlock(list, at), impl.BlocksResult{Code: impl.ErrNone}
		}
		next[at].Refs++
		return impl.ShareBlock(list, at), impl.BlocksResult{At: at, Blocks: next}
	}
	switch {
	case !inside:
		return impl.DropBlock(list, at), impl.BlocksResult{Code: impl.ErrRange}
	case list[at].Refs == 0:
		return impl.DropBlock(list, at), impl.BlocksResult{Code: impl.ErrNone}
	}
	next[at].Refs--
	if next[at].Refs == 0 {
		next[at].Data = 0
	}
	return impl.DropBlock(list, at), impl.BlocksResult{At: at, Blocks: next}
}

func TestBlocksWalk(t *testing.T) {
	x := &dice{state: 3}
	for _, n := range []int64{0, 1, 2, 5, 24} {
		list := impl.NewBlocks(n).Blocks
		for step := range 800 {
			free := impl.FreeOf(list).Value
			got, want := stepOfBlocks(x, list)
			if !sameBlocks(got, want) {
				t.Fatalf("%d blocks, step %d: at %v got %v, want %v", n, step, list, got, want)
			}
			if got.Code != impl.OK {
				continue
			}
			list = got.Blocks
			if impl.BlocksFault(list) != impl.OK || impl.FreeOf(list).Value-free > 1 || free-impl.FreeOf(list).Value > 1 {
				t.Fatalf("%d blocks, step %d: %v", n, step, list)
			}
		}
	}
}
