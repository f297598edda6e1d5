package tests

import (
	"math"
	"slices"
	"testing"

	"loop.example/g00277/impl"
)

// cellsOf has a cell for each three numbers: its Vol, its At, its Value.
func cellsOf(numbers ...int64) []impl.Cell {
	var list []impl.Cell
	for three := range slices.Chunk(numbers, 3) {
		list = append(list, impl.Cell{Vol: three[0], At: three[1], Value: three[2]})
	}
	return list
}

func plainWith(blocks int64, vols []impl.Vol, cells []impl.Cell, shares ...int64) impl.Plain {
	return impl.Plain{Blocks: blocks, Vols: vols, Cells: cells, Shares: shares}
}

// emptyVols has a volume without a tree for each two numbers: its Id, its Quota.
func emptyVols(numbers ...int64) []impl.Vol {
	var list []impl.Vol
	for two := range slices.Chunk(numbers, 2) {
		list = append(list, impl.Vol{Id: two[0], Quota: two[1], Root: -1})
	}
	return list
}

// threeVols is what plainPool is like: 3 may have two more, 7 has all that it may, 9 has nothing.
func threeVols() impl.Plain {
	return plainWith(6, emptyVols(3, 5, 7, 3, 9, 1), cellsOf(3, 0, 10, 3, 1, 11, 3, 10, 13, 7, 6, 13, 7, 12, 14, 7, 15, 10), 4)
}

func plainVols(numbers ...int64) impl.Plain {
	p := threeVols()
	p.Vols = volsOf(numbers...)
	return p
}

func plainCells(numbers ...int64) impl.Plain {
	p := threeVols()
	p.Cells = cellsOf(numbers...)
	return p
}

func plainShares(blocks int64, shares ...int64) impl.Plain {
	p := threeVols()
	p.Blocks, p.Shares = blocks, shares
	return p
}

// mostCells has all cells that there may be: six volumes with all their places.
func mostCells() impl.Plain {
	p := plainWith(24, emptyVols(1, 16, 2, 16, 3, 16, 50, 16, 98, 16, 99, 16), nil, 24)
	for _, v := range p.Vols {
		for at := range int64(16) {
			p.Cells = append(p.Cells, impl.Cell{Vol: v.Id, At: at, Value: 255 - at})
		}
	}
	return p
}

// oneMore is the plain pool with a cell behind all others.
func oneMore(p impl.Plain, c impl.Cell) impl.Plain {
	p.Cells = append(slices.Clone(p.Cells), c)
	return p
}

func samePlain(a, b impl.Plain) bool {
	return a.Blocks == b.Blocks && slices.Equal(a.Vols, b.Vols) && slices.Equal(a.Cells, b.Cells) && slices.Equal(a.Shares, b.Shares)
}

func copyPlain(p impl.Plain) impl.Plain {
	return plainWith(p.Blocks, slices.Clone(p.Vols), slices.Clone(p.Cells), slices.Clone(p.Shares)...)
}

func wantPlain(t *testing.T, name string, got impl.PlainResult, reply, value int64, p impl.Plain) {
	t.Helper()
	if got.Code != impl.OK || got.Reply != reply || got.Value != value || !samePlain(got.Plain, p) {
		t.Errorf("%s: got %v, want reply %d, value %d, plain pool %v", name, got, reply, value, p)
	}
	if code := impl.PlainFault(got.Plain); code != impl.OK {
		t.Errorf("%s: the answer %v has the fault %d", name, got, code)
	}
}

func wantPlainCode(t *testing.T, name string, got impl.PlainResult, code int64) {
	t.Helper()
	if got.Code != code || got.Reply != 0 || got.Value != 0 || !samePlain(got.Plain, impl.Plain{}) {
		t.Errorf("%s: got %v, want the code %d and nothing else", name, got, code)
	}
}

func wantText(t *testing.T, name string, got impl.TextResult, code int64, text string) {
	t.Helper()
	if got.Code != code || got.Text != text {
		t.Errorf("%s: got %d, %q, want %d, %q", name, got.Code, got.Text, code, text)
	}
}

type plainCase struct {
	name  string
	plain impl.Plain
	code  int64
}

func faultyPlainVols() []plainCase {
	seven := emptyVols(1, 1, 2, 1, 3, 1, 4, 1, 5, 1, 6, 1, 7, 1)
	wrong := []plainCase{
		{"7 volumes", plainWith(6, seven, nil), impl.ErrMany},
		{"7 volumes, all wrong", plainWith(6, make([]impl.Vol, 7), nil), impl.ErrMany},
		{"7 volumes ahead of cells", plainWith(6, seven, make([]impl.Cell, 97)), impl.ErrMany},
		{"range of Blocks ahead of 7 volumes", plainWith(25, seven, nil), impl.ErrRange},
		{"two of one id", plainVols(3, 5, -1, 7, 3, -1, 7, 3, -1), impl.ErrForm},
		{"ids that fall", plainVols(7, 5, -1, 3, 3, -1), impl.ErrForm},
		{"the last id falls", plainVols(3, 5, -1, 9, 3, -1, 7, 3, -1), impl.ErrForm},
		{"range of a Quota ahead of an id that does not rise", plainVols(7, 5, -1, 3, 17, -1), impl.ErrRange},
		{"range of a Root ahead of an id that does not rise", plainVols(7, 5, -1, 3, 5, 0), impl.ErrRange},
		{"range of an id that does not rise", plainVols(7, 5, -1, 0, 5, -1), impl.ErrRange},
		{"the second does not rise, range of the third", plainVols(3, 5, -1, 3, 5, -1, 100, 1, -1), impl.ErrForm},
		{"range of the first, the next does not rise", plainVols(3, 0, -1, 3, 5, -1), impl.ErrRange},
		{"range of a volume ahead of 97 cells", plainWith(6, emptyVols(3, 0), make([]impl.Cell, 97)), impl.ErrRange},
		{"an id that does not rise ahead of 97 cells", plainWith(6, emptyVols(3, 1, 3, 1), make([]impl.Cell, 97)), impl.ErrForm},
		{"an id that does not rise ahead of range of a cell", plainWith(6, emptyVols(3, 1, 3, 1), cellsOf(3, 16, 0)), impl.ErrForm},
	}
	for _, n := range badNumbers(0, 24) {
		wrong = append(wrong, plainCase{"Blocks", plainShares(n), impl.ErrRange})
		wrong = append(wrong, plainCase{"Blocks of a plain pool with nothing", impl.Plain{Blocks: n}, impl.ErrRange})
		wrong = append(wrong, plainCase{"Blocks, and Shares not so", plainShares(n, 0), impl.ErrRange})
	}
	for _, id := range badNumbers(1, 99) {
		wrong = append(wrong, plainCase{"the first id", plainVols(id, 5, -1, 7, 3, -1), impl.ErrRange})
		wrong = append(wrong, plainCase{"the last id", plainVols(3, 5, -1, id, 3, -1), impl.ErrRange})
	}
	for _, quota := range badNumbers(1, 16) {
		wrong = append(wrong, plainCase{"the first Quota", plainVols(3, quota, -1, 7, 3, -1), impl.ErrRange})
		wrong = append(wrong, plainCase{"the last Quota", plainVols(3, 5, -1, 7, 3, -1, 9, quota, -1), impl.ErrRange})
	}
	for _, root := range []int64{-2, 0, 1, 2, 59, 60, math.MinInt64, math.MaxInt64, 1<<32 - 1} {
		wrong = append(wrong, plainCase{"the first Root", plainVols(3, 5, root, 7, 3, -1), impl.ErrRange})
		wrong = append(wrong, plainCase{"the last Root", plainVols(3, 5, -1, 7, 3, root), impl.ErrRange})
	}
	return wrong
}

func faultyCells() []plainCase {
	wrong := []plainCase{
		{"97 cells", oneMore(mostCells(), impl.Cell{Vol: 99, At: 15, Value: 1}), impl.ErrMany},
		{"97 cells, all wrong", plainWith(6, nil, slices.Repeat(cellsOf(0, -1, -1), 97)), impl.ErrMany},
		{"96 cells, all wrong", plainWith(6, nil, slices.Repeat(cellsOf(0, -1, -1), 96)), impl.ErrRange},
		{"a cell twice", plainCells(3, 0, 1, 3, 0, 1), impl.ErrForm},
		{"a place twice", plainCells(3, 0, 1, 3, 0, 2), impl.ErrForm},
		{"a place falls", plainCells(3, 5, 1, 3, 4, 2), impl.ErrForm},
		{"a volume falls", plainCells(7, 5, 1, 3, 6, 2), impl.ErrForm},
		{"a volume falls, the place is the same", plainCells(7, 5, 1, 3, 5, 1), impl.ErrForm},
		{"the last place falls", plainCells(3, 0, 1, 7, 5, 1, 7, 4, 1), impl.ErrForm},
		{"the last volume falls", plainCells(3, 0, 1, 7, 5, 1, 3, 6, 1), impl.ErrForm},
		{"range of At ahead of a volume that there is not", plainCells(4, 16, 1), impl.ErrRange},
		{"range of Value ahead of a volume that there is not", plainCells(4, 0, 256), impl.ErrRange},
		{"range of At ahead of one that falls", plainCells(3, 5, 1, 3, -1, 1), impl.ErrRange},
		{"range of Value ahead of a place twice", plainCells(3, 5, 1, 3, 5, -1), impl.ErrRange},
		{"no such volume ahead of one that falls", plainCells(7, 5, 1, 4, 5, 1), impl.ErrNone},
		{"no such volume, range of the next", plainCells(4, 0, 1, 7, 16, 1), impl.ErrNone},
		{"range of the first, no such volume of the next", plainCells(3, 16, 1, 4, 0, 1), impl.ErrRange},
		{"the second falls, range of the third", plainCells(3, 5, 1, 3, 4, 1, 7, 0, 256), impl.ErrForm},
		{"the second falls, no such volume of the third", plainCells(3, 5, 1, 3, 4, 1, 8, 0, 0), impl.ErrForm},
		{"no such volume, the next falls", plainCells(3, 5, 1, 4, 5, 1, 3, 5, 1), impl.ErrNone},
		{"range of the last ahead of the Quota", plainCells(9, 0, 1, 9, 1, 256), impl.ErrRange},
		{"no such volume of the last ahead of the Quota", plainCells(9, 0, 1, 9, 1, 1, 10, 0, 1), impl.ErrNone},
		{"a place twice ahead of the Quota", plainCells(9, 1, 1, 9, 1, 1), impl.ErrForm},
		{"a cell where there are no volumes", plainWith(6, nil, cellsOf(1, 0, 0)), impl.ErrNone},
		{"a cell of no id where there are no volumes", plainWith(6, nil, cellsOf(0, 0, 0)), impl.ErrNone},
	}
	for _, vol := range append(badNumbers(1, 99), 1, 2, 4, 8, 10, 98, 3+1<<32) {
		wrong = append(wrong, plainCase{"no such volume", plainCells(vol, 0, 0), impl.ErrNone})
		wrong = append(wrong, plainCase{"no such volume, the last cell", plainCells(3, 0, 0, vol, 0, 0), impl.ErrNone})
	}
	for _, at := range badNumbers(0, 15) {
		wrong = append(wrong, plainCase{"At", plainCells(3, at, 0), impl.ErrRange})
		wrong = append(wrong, plainCase{"At of the last", plainCells(3, 0, 0, 7, at, 0), impl.ErrRange})
	}
	for _, value := range badNumbers(0, 255) {
		wrong = append(wrong, plainCase{"Value", plainCells(3, 0, value), impl.ErrRange})
		wrong = append(wrong, plainCase{"Value of the last", plainCells(3, 0, 0, 7, 0, value), impl.ErrRange})
	}
	return wrong
}

func faultyQuotasAndShares() []plainCase {
	full := mostCells()
	full.Vols[3].Quota = 15
	last := mostCells()
	last.Vols[5].Quota = 15
	both := plainCells(9, 0, 1, 9, 1, 1)
	both.Shares = []int64{1, 1}
	wrong := []plainCase{
		{"16 cells, Quota 15", full, impl.ErrQuota},
		{"16 cells of the last one, Quota 15", last, impl.ErrQuota},
		{"2 cells, Quota 1", plainCells(9, 0, 1, 9, 1, 1), impl.ErrQuota},
		{"one more than its Quota", plainVols(3, 2, -1, 7, 3, -1), impl.ErrQuota},
		{"the last one has one more than its Quota", plainVols(3, 3, -1, 7, 2, -1), impl.ErrQuota},
		{"the Quota ahead of Shares", both, impl.ErrQuota},
		{"two Shares", plainShares(6, 4, 4), impl.ErrForm},
		{"two Shares, none of them so", plainShares(6, 0, 7), impl.ErrForm},
		{"three Shares", plainShares(6, 1, 2, 3), impl.ErrForm},
		{"Shares where there are no blocks", plainShares(0, 1), impl.ErrForm},
		{"Shares 0 where there are no blocks", plainShares(0, 0), impl.ErrForm},
		{"Shares 25 of 24", plainShares(24, 25), impl.ErrForm},
		{"Shares 0 of a plain pool with nothing", plainWith(0, nil, nil, 0), impl.ErrForm},
	}
	for _, n := range badNumbers(1, 6) {
		wrong = append(wrong, plainCase{"Shares", plainShares(6, n), impl.ErrForm})
	}
	return wrong
}

func faultyPlains() []plainCase {
	return slices.Concat(faultyPlainVols(), faultyCells(), faultyQuotasAndShares())
}

func soundPlains() []plainCase {
	return []plainCase{
		{"nothing", impl.Plain{}, impl.OK},
		{"empty lists", impl.Plain{Vols: []impl.Vol{}, Cells: []impl.Cell{}, Shares: []int64{}}, impl.OK},
		{"three volumes", threeVols(), impl.OK},
		{"96 cells", mostCells(), impl.OK},
		{"24 blocks", impl.Plain{Blocks: 24}, impl.OK},
		{"Shares, and no cells", plainWith(1, nil, nil, 1), impl.OK},
		{"Shares 1", plainShares(6, 1), impl.OK},
		{"Shares as many as Blocks", plainShares(6, 6), impl.OK},
		{"Shares 24", plainShares(24, 24), impl.OK},
		{"no Shares", plainShares(6), impl.OK},
		{"cells where there are no blocks", plainShares(0), impl.OK},
		{"no cells", plainCells(), impl.OK},
		{"Ids and Quotas at their ends", plainWith(3, emptyVols(1, 1, 99, 16), cellsOf(1, 0, 0, 99, 0, 255, 99, 15, 0), 3), impl.OK},
		{"six empty volumes", plainWith(0, emptyVols(1, 1, 2, 16, 3, 1, 4, 1, 98, 1, 99, 1), nil), impl.OK},
		{"a place falls with the next volume", plainCells(3, 15, 1, 7, 0, 1), impl.OK},
		{"a place is the same in the next volume", plainCells(3, 15, 1, 7, 15, 1, 9, 15, 1), impl.OK},
	}
}

func TestPlainFault(t *testing.T) {
	for _, c := range append(faultyPlains(), soundPlains()...) {
		if got := impl.PlainFault(c.plain); got != c.code {
			t.Errorf("%s: %v: got %d, want %d", c.name, c.plain, got, c.code)
		}
	}
}

// The other arguments are wrong as well in half of the calls: the fault of the plain pool is asked ahead of them.
func TestPlainFaultComesFirst(t *testing.T) {
	for _, c := range faultyPlains() {
		for _, o := range []impl.Op{opOf(impl.OpCreate, 55, 0, 1), opOf(impl.OpRead, 3, 0, 0), opOf(impl.OpWrite, 3, 0, 0), opOf(7, 0, 0, 0), opOf(impl.OpDelete, 100, 0, 0)} {
			wantPlainCode(t, c.name, impl.ApplyPlain(c.plain, o, false), c.code)
			wantPlainCode(t, c.name, impl.ApplyPlain(c.plain, o, true), c.code)
		}
		for _, id := range []int64{3, 7, 55, 0, math.MaxInt64} {
			for _, at := range []int64{0, 15, 16, math.MinInt64} {
				wantInt(t, c.name+": CellIn", impl.CellIn(c.plain, id, at), c.code, 0)
			}
		}
		wantText(t, c.name+": CellsText", impl.CellsText(c.plain), c.code, "")
	}
}

func TestCellIn(t *testing.T) {
	for _, c := range soundPlains() {
		for id := int64(-1); id < 102; id++ {
			for at := int64(-2); at < 18; at++ {
				i := slices.IndexFunc(c.plain.Cells, func(cell impl.Cell) bool { return cell.Vol == id && cell.At == at })
				if i < 0 {
					wantInt(t, c.name, impl.CellIn(c.plain, id, at), impl.ErrNone, 0)
				} else {
					wantInt(t, c.name, impl.CellIn(c.plain, id, at), impl.OK, c.plain.Cells[i].Value)
				}
			}
		}
		for _, far := range []int64{math.MinInt64, math.MaxInt64, 3 + 1<<32} {
			wantInt(t, c.name, impl.CellIn(c.plain, far, 0), impl.ErrNone, 0)
			wantInt(t, c.name, impl.CellIn(c.plain, 3, far), impl.ErrNone, 0)
			wantInt(t, c.name, impl.CellIn(c.plain, far, far), impl.ErrNone, 0)
		}
	}
	wantInt(t, "a cell", impl.CellIn(threeVols(), 7, 12), impl.OK, 14)
	wantInt(t, "another one's place", impl.CellIn(threeVols(), 3, 12), impl.ErrNone, 0)
	wantInt(t, "a cell with 0", impl.CellIn(plainCells(3, 4, 0), 3, 4), impl.OK, 0)
}

// likeOf is what a pool is like, told by reading each place of each volume.
func likeOf(p impl.Pool) impl.Plain {
	like := impl.Plain{Blocks: int64(len(p.Forest.Blocks))}
	for _, v := range p.Vols {
		like.Vols = append(like.Vols, impl.Vol{Id: v.Id, Quota: v.Quota, Root: -1})
		for at, r := range readsOf(p, v.Id) {
			if r.Reply == impl.OK {
				like.Cells = append(like.Cells, impl.Cell{Vol: v.Id, At: int64(at), Value: r.Value})
			}
		}
	}
	used := int64(0)
	for _, b := range p.Forest.Blocks {
		if b.Refs > 0 {
			used++
		}
	}
	if used > 0 {
		like.Shares = []int64{used}
	}
	return like
}

func TestPlainOf(t *testing.T) {
	wantPlain(t, "three volumes", impl.PlainOf(plainPool()), 0, 0, threeVols())
	four := cellsOf(1, 6, 13, 1, 12, 14, 1, 15, 10, 2, 0, 10, 2, 1, 11, 2, 10, 13, 50, 6, 13, 50, 12, 14, 50, 15, 10, 98, 6, 13, 98, 12, 14, 98, 15, 10)
	wantPlain(t, "volumes that share a tree", impl.PlainOf(crowdedPool()), 0, 0, plainWith(6, emptyVols(1, 16, 2, 3, 50, 3, 51, 1, 98, 5, 99, 16), four, 4))
	full := cellsOf(3, 0, 10, 3, 1, 11, 3, 2, 12, 3, 3, 15, 3, 10, 13, 7, 6, 13, 7, 12, 14, 7, 15, 10)
	wantPlain(t, "no block is free", impl.PlainOf(fullPool()), 0, 0, plainWith(6, emptyVols(3, 5, 7, 16, 9, 1), full, 6))
	wantPlain(t, "a block at four places", impl.PlainOf(twicePool(4)), 0, 0, plainWith(2, emptyVols(5, 4), cellsOf(5, 0, 9, 5, 3, 9, 5, 8, 9, 5, 11, 9), 1))
	wantPlain(t, "a block of 0", impl.PlainOf(poolOf(forestOf(blocksOf(1, 0), leafNode(1, 0, -1, -1, -1), rootNode(1, 0, -1, -1, -1)), 3, 1, 1)), 0, 0, plainWith(1, emptyVols(3, 1), cellsOf(3, 0, 0), 1))
	wantPlain(t, "nothing", impl.PlainOf(impl.Pool{}), 0, 0, impl.Plain{})
	for n := range int64(25) {
		wantPlain(t, "a new one", impl.PlainOf(impl.NewPool(n).Pool), 0, 0, impl.Plain{Blocks: n})
	}
	for _, c := range soundPools() {
		wantPlain(t, c.name, impl.PlainOf(c.pool), 0, 0, likeOf(c.pool))
	}
	for _, c := range faultyPools() {
		wantPlainCode(t, c.name, impl.PlainOf(c.pool), c.code)
	}
}

// plainChanges are all ways in which a plain pool can differ from threeVols by one thing but Shares.
func plainChanges() map[string]func(p *impl.Plain) {
	return map[string]func(p *impl.Plain){
		"Blocks":              func(p *impl.Plain) { p.Blocks++ },
		"an Id":               func(p *impl.Plain) { p.Vols[2].Id++ },
		"a Quota":             func(p *impl.Plain) { p.Vols[0].Quota++ },
		"a Root":              func(p *impl.Plain) { p.Vols[1].Root = 2 },
		"one volume less":     func(p *impl.Plain) { p.Vols = p.Vols[:2] },
		"one volume more":     func(p *impl.Plain) { p.Vols = append(p.Vols, impl.Vol{}) },
		"no volume":           func(p *impl.Plain) { p.Vols = nil },
		"volumes change":      func(p *impl.Plain) { p.Vols[0], p.Vols[1] = p.Vols[1], p.Vols[0] },
		"a Vol of a cell":     func(p *impl.Plain) { p.Cells[5].Vol = 9 },
		"an At of a cell":     func(p *impl.Plain) { p.Cells[0].At = 15 },
		"a Value of a cell":   func(p *impl.Plain) { p.Cells[3].Value++ },
		"one cell less":       func(p *impl.Plain) { p.Cells = p.Cells[:5] },
		"one cell more":       func(p *impl.Plain) { p.Cells = append(p.Cells, impl.Cell{}) },
		"no cells":            func(p *impl.Plain) { p.Cells = nil },
		"cells change":        func(p *impl.Plain) { p.Cells[0], p.Cells[1] = p.Cells[1], p.Cells[0] },
		"far ends, Blocks":    func(p *impl.Plain) { p.Blocks = math.MinInt64 },
		"far ends, a volume":  func(p *impl.Plain) { p.Vols[0].Id = math.MaxInt64 },
		"far ends, of a cell": func(p *impl.Plain) { p.Cells[0].Value = math.MinInt64 },
	}
}

func TestSamePlains(t *testing.T) {
	for _, c := range append(faultyPlains(), soundPlains()...) {
		other := copyPlain(c.plain)
		for _, shares := range [][]int64{c.plain.Shares, nil, {}, {1}, {2, 3}, {math.MinInt64}} {
			other.Shares = shares
			if !impl.SamePlains(c.plain, other) || !impl.SamePlains(other, c.plain) {
				t.Errorf("%s: is not the same with the Shares %v", c.name, shares)
			}
		}
		for _, o := range soundPlains() {
			a, b := copyPlain(c.plain), copyPlain(o.plain)
			a.Shares, b.Shares = nil, nil
			want := samePlain(a, b)
			if impl.SamePlains(c.plain, o.plain) != want || impl.SamePlains(o.plain, c.plain) != want {
				t.Errorf("%s beside %s: want %v", c.name, o.name, want)
			}
		}
	}
	for name, change := range plainChanges() {
		changed := threeVols()
		change(&changed)
		if impl.SamePlains(changed, threeVols()) || impl.SamePlains(threeVols(), changed) {
			t.Errorf("%s: is told as the same", name)
		}
		again := threeVols()
		change(&again)
		if !impl.SamePlains(changed, again) {
			t.Errorf("%s: is told as another one", name)
		}
	}
}

func TestCellsText(t *testing.T) {
	wantText(t, "nothing", impl.CellsText(impl.Plain{}), impl.OK, "")
	wantText(t, "blocks alone", impl.CellsText(impl.Plain{Blocks: 24}), impl.OK, "")
	wantText(t, "a volume with no cell", impl.CellsText(plainWith(3, emptyVols(9, 1), nil)), impl.OK, "vol 9 1\n")
	wantText(t, "with one", impl.CellsText(plainWith(3, emptyVols(1, 2), cellsOf(1, 3, 5), 1)), impl.OK, "vol 1 2 3:5\n")
	wantText(t, "several", impl.CellsText(threeVols()), impl.OK, "vol 3 5 0:10 1:11 10:13\nvol 7 3 6:13 12:14 15:10\nvol 9 1\n")
	wantText(t, "the ends", impl.CellsText(plainWith(3, emptyVols(1, 1, 99, 16), cellsOf(1, 0, 0, 99, 0, 255, 99, 15, 0), 3)), impl.OK, "vol 1 1 0:0\nvol 99 16 0:255 15:0\n")
	wantText(t, "an empty one ahead", impl.CellsText(plainWith(0, emptyVols(10, 10, 11, 11), cellsOf(11, 1, 1))), impl.OK, "vol 10 10\nvol 11 11 1:1\n")
	want := "vol 50 16 0:255 1:254 2:253 3:252 4:251 5:250 6:249 7:248 8:247 9:246 10:245 11:244 12:243 13:242 14:241 15:240\n"
	most := mostCells()
	most.Vols, most.Cells = most.Vols[3:4], most.Cells[48:64]
	wantText(t, "all places", impl.CellsText(most), impl.OK, want)
	for _, c := range soundPlains() {
		first := impl.CellsText(c.plain)
		for range 20 {
			wantText(t, c.name+": once more", impl.CellsText(copyPlain(c.plain)), impl.OK, first.Text)
		}
	}
}
