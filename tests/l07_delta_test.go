package tests

import (
	"math"
	"slices"
	"testing"

	"loop.example/g00277/impl"
)

// stepsOf has a step for each four numbers: whether it Has (1 or 0), its Vol, its At, its Value.
func stepsOf(numbers ...int64) []impl.Step {
	var list []impl.Step
	for four := range slices.Chunk(numbers, 4) {
		list = append(list, impl.Step{Has: four[0] == 1, Vol: four[1], At: four[2], Value: four[3]})
	}
	return list
}

// stepsUpTo has n steps, in order, each at another place: the volumes are 1 and those behind it.
func stepsUpTo(n int64) []impl.Step {
	var list []impl.Step
	for i := range n {
		list = append(list, impl.Step{Has: true, Vol: 1 + i/16, At: i % 16, Value: i})
	}
	return list
}

func deltaWith(from, to int64, vols []impl.Vol, steps []impl.Step) impl.Delta {
	return impl.Delta{From: from, To: to, Vols: vols, Steps: steps}
}

// threeSteps is a delta without a fault: a place with a value, one with none any more, one at the ends.
func threeSteps() impl.Delta {
	return deltaWith(1, 2, emptyVols(3, 5, 7, 3, 9, 1), stepsOf(1, 3, 0, 10, 0, 3, 4, 0, 1, 7, 15, 255))
}

func deltaVols(numbers ...int64) impl.Delta {
	d := threeSteps()
	d.Vols = volsOf(numbers...)
	return d
}

func deltaSteps(numbers ...int64) impl.Delta {
	d := threeSteps()
	d.Steps = stepsOf(numbers...)
	return d
}

func sameDelta(a, b impl.Delta) bool {
	return a.From == b.From && a.To == b.To && slices.Equal(a.Vols, b.Vols) && slices.Equal(a.Steps, b.Steps)
}

func copyDelta(d impl.Delta) impl.Delta {
	return deltaWith(d.From, d.To, slices.Clone(d.Vols), slices.Clone(d.Steps))
}

func wantDelta(t *testing.T, name string, got impl.DeltaResult, d impl.Delta) {
	t.Helper()
	if got.Code != impl.OK || !sameDelta(got.Delta, d) {
		t.Errorf("%s: got %v, want the delta %v", name, got, d)
	}
	if code := impl.DeltaFault(got.Delta); code != impl.OK {
		t.Errorf("%s: the answer %v has the fault %d", name, got, code)
	}
}

func wantDeltaCode(t *testing.T, name string, got impl.DeltaResult, code int64) {
	t.Helper()
	if got.Code != code || !sameDelta(got.Delta, impl.Delta{}) {
		t.Errorf("%s: got %v, want the code %d and nothing else", name, got, code)
	}
}

type deltaCase struct {
	name  string
	delta impl.Delta
	code  int64
}

func faultySigns() []deltaCase {
	seven := emptyVols(1, 1, 2, 1, 3, 1, 4, 1, 5, 1, 6, 1, 7, 1)
	three := threeSteps()
	wrong := []deltaCase{
		{"range of From ahead of 7 volumes", deltaWith(-1, 0, seven, nil), impl.ErrRange},
		{"range of To ahead of 121 steps", deltaWith(0, 65521, nil, stepsUpTo(121)), impl.ErrRange},
		{"7 volumes", deltaWith(1, 2, seven, nil), impl.ErrMany},
		{"7 volumes, all wrong", deltaWith(1, 2, make([]impl.Vol, 7), nil), impl.ErrMany},
		{"7 volumes ahead of a wrong step", deltaWith(1, 2, seven, stepsOf(1, 0, 0, 0)), impl.ErrMany},
		{"121 steps", deltaWith(1, 2, three.Vols, stepsUpTo(121)), impl.ErrMany},
		{"121 steps, all wrong", deltaWith(1, 2, three.Vols, make([]impl.Step, 121)), impl.ErrMany},
		{"121 steps ahead of a wrong volume", deltaWith(1, 2, emptyVols(0, 1), stepsUpTo(121)), impl.ErrMany},
		{"120 steps, all wrong", deltaWith(1, 2, three.Vols, make([]impl.Step, 120)), impl.ErrRange},
		{"120 steps, the last one wrong", deltaWith(1, 2, nil, append(stepsUpTo(119), impl.Step{Vol: 99, Value: 1})), impl.ErrForm},
	}
	for _, n := range badNumbers(0, 65520) {
		wrong = append(wrong, deltaCase{"From", deltaWith(n, 2, three.Vols, three.Steps), impl.ErrRange})
		wrong = append(wrong, deltaCase{"To", deltaWith(1, n, three.Vols, three.Steps), impl.ErrRange})
		wrong = append(wrong, deltaCase{"both, with no lists", deltaWith(n, n, nil, nil), impl.ErrRange})
	}
	return wrong
}

func faultyDeltaVols() []deltaCase {
	wrong := []deltaCase{
		{"two of one id", deltaVols(3, 5, -1, 7, 3, -1, 7, 3, -1), impl.ErrForm},
		{"ids that fall", deltaVols(7, 5, -1, 3, 3, -1), impl.ErrForm},
		{"the last id falls", deltaVols(3, 5, -1, 9, 3, -1, 7, 3, -1), impl.ErrForm},
		{"range of a Quota ahead of an id that does not rise", deltaVols(7, 5, -1, 3, 17, -1), impl.ErrRange},
		{"range of a Root ahead of an id that does not rise", deltaVols(7, 5, -1, 3, 5, 0), impl.ErrRange},
		{"the second does not rise, range of the third", deltaVols(3, 5, -1, 3, 5, -1, 100, 1, -1), impl.ErrForm},
		{"range of the first, the next does not rise", deltaVols(3, 0, -1, 3, 5, -1), impl.ErrRange},
		{"an id that does not rise ahead of range of a step", deltaWith(1, 2, emptyVols(3, 1, 3, 1), stepsOf(1, 3, 16, 0)), impl.ErrForm},
		{"range of a volume ahead of the form of a step", deltaWith(1, 2, emptyVols(3, 17), stepsOf(0, 3, 1, 1)), impl.ErrRange},
	}
	for _, id := range badNumbers(1, 99) {
		wrong = append(wrong, deltaCase{"the first id", deltaVols(id, 5, -1, 7, 3, -1), impl.ErrRange})
		wrong = append(wrong, deltaCase{"the last id", deltaVols(3, 5, -1, id, 3, -1), impl.ErrRange})
	}
	for _, quota := range badNumbers(1, 16) {
		wrong = append(wrong, deltaCase{"the first Quota", deltaVols(3, quota, -1, 7, 3, -1), impl.ErrRange})
		wrong = append(wrong, deltaCase{"the last Quota", deltaVols(3, 5, -1, 9, quota, -1), impl.ErrRange})
	}
	for _, root := range []int64{-2, 0, 1, 59, math.MinInt64, math.MaxInt64, 1<<32 - 1} {
		wrong = append(wrong, deltaCase{"the first Root", deltaVols(3, 5, root, 7, 3, -1), impl.ErrRange})
		wrong = append(wrong, deltaCase{"the last Root", deltaVols(3, 5, -1, 7, 3, root), impl.ErrRange})
	}
	return wrong
}

func faultySteps() []deltaCase {
	wrong := []deltaCase{
		{"Value 1 without Has", deltaSteps(0, 3, 0, 1), impl.ErrForm},
		{"Value 255 without Has", deltaSteps(1, 3, 0, 1, 0, 3, 1, 255), impl.ErrForm},
		{"range of a Value ahead of Has", deltaSteps(0, 3, 0, 256), impl.ErrRange},
		{"range of a Value below 0 ahead of Has", deltaSteps(0, 3, 0, -1), impl.ErrRange},
		{"range of At ahead of Has", deltaSteps(0, 3, 16, 1), impl.ErrRange},
		{"range of Vol ahead of Has", deltaSteps(0, 100, 0, 1), impl.ErrRange},
		{"a step twice", deltaSteps(1, 3, 5, 1, 1, 3, 5, 1), impl.ErrForm},
		{"a place twice", deltaSteps(0, 3, 5, 0, 1, 3, 5, 1), impl.ErrForm},
		{"a place falls", deltaSteps(1, 3, 5, 1, 1, 3, 4, 1), impl.ErrForm},
		{"a volume falls", deltaSteps(1, 7, 5, 1, 1, 3, 6, 1), impl.ErrForm},
		{"a volume falls, the place is the same", deltaSteps(1, 7, 5, 1, 1, 3, 5, 1), impl.ErrForm},
		{"the last place falls", deltaSteps(1, 3, 0, 1, 1, 7, 5, 1, 0, 7, 4, 0), impl.ErrForm},
		{"range of Vol of a step that falls", deltaSteps(1, 3, 5, 1, 1, 0, 6, 1), impl.ErrRange},
		{"range of At of a step that falls", deltaSteps(1, 3, 5, 1, 1, 3, -1, 1), impl.ErrRange},
		{"range of Value of a step twice", deltaSteps(1, 3, 5, 1, 1, 3, 5, 256), impl.ErrRange},
		{"Value without Has, range of the next", deltaSteps(0, 3, 5, 1, 1, 3, 16, 0), impl.ErrForm},
		{"range of the first, Value of the next without Has", deltaSteps(1, 3, 16, 1, 0, 3, 17, 1), impl.ErrRange},
		{"the second falls, range of the third", deltaSteps(1, 3, 5, 1, 1, 3, 4, 1, 1, 7, 0, 256), impl.ErrForm},
		{"range of the second, the third falls", deltaSteps(1, 3, 5, 1, 1, 3, 6, 256, 1, 3, 0, 0), impl.ErrRange},
	}
	for _, vol := range badNumbers(1, 99) {
		wrong = append(wrong, deltaCase{"Vol", deltaSteps(1, vol, 0, 0), impl.ErrRange})
		wrong = append(wrong, deltaCase{"Vol of the last", deltaSteps(1, 3, 0, 0, 0, vol, 0, 0), impl.ErrRange})
	}
	for _, at := range badNumbers(0, 15) {
		wrong = append(wrong, deltaCase{"At", deltaSteps(0, 3, at, 0), impl.ErrRange})
		wrong = append(wrong, deltaCase{"At of the last", deltaSteps(1, 3, 0, 0, 1, 7, at, 0), impl.ErrRange})
	}
	for _, value := range badNumbers(0, 255) {
		wrong = append(wrong, deltaCase{"Value", deltaSteps(1, 3, 0, value), impl.ErrRange})
		wrong = append(wrong, deltaCase{"Value of the last, without Has", deltaSteps(1, 3, 0, 0, 0, 7, 0, value), impl.ErrRange})
	}
	return wrong
}

func faultyDeltas() []deltaCase {
	return slices.Concat(faultySigns(), faultyDeltaVols(), faultySteps())
}

func soundDeltas() []deltaCase {
	six := emptyVols(1, 1, 2, 16, 3, 1, 4, 1, 98, 1, 99, 16)
	return []deltaCase{
		{"nothing", impl.Delta{}, impl.OK},
		{"empty lists", deltaWith(0, 0, []impl.Vol{}, []impl.Step{}), impl.OK},
		{"three steps", threeSteps(), impl.OK},
		{"From and To at their ends", deltaWith(0, 65520, nil, nil), impl.OK},
		{"To and From at their ends", deltaWith(65520, 0, nil, nil), impl.OK},
		{"the same From and To", deltaWith(65520, 65520, six, nil), impl.OK},
		{"six volumes", deltaWith(1, 2, six, nil), impl.OK},
		{"120 steps", deltaWith(1, 2, nil, stepsUpTo(120)), impl.OK},
		{"six volumes, 120 steps", deltaWith(65520, 65520, six, stepsUpTo(120)), impl.OK},
		{"a volume alone", deltaVols(3, 5, -1), impl.OK},
		{"Vols at their ends", deltaSteps(1, 1, 0, 0, 1, 99, 0, 0), impl.OK},
		{"places at their ends", deltaSteps(1, 3, 0, 0, 1, 3, 15, 0), impl.OK},
		{"Values at their ends", deltaSteps(1, 3, 0, 0, 1, 3, 1, 255), impl.OK},
		{"none any more", deltaSteps(0, 3, 0, 0, 0, 3, 15, 0, 0, 99, 15, 0), impl.OK},
		{"a place falls with the next volume", deltaSteps(1, 3, 15, 1, 1, 7, 0, 1), impl.OK},
		{"a place is the same in the next volume", deltaSteps(0, 3, 15, 0, 1, 7, 15, 0), impl.OK},
		{"steps of volumes that are not among Vols", deltaSteps(1, 1, 0, 1, 1, 8, 0, 1, 0, 99, 0, 0), impl.OK},
	}
}

func TestDeltaFault(t *testing.T) {
	for _, c := range append(faultyDeltas(), soundDeltas()...) {
		if got := impl.DeltaFault(c.delta); got != c.code {
			t.Errorf("%s: %v: got %d, want %d", c.name, c.delta, got, c.code)
		}
	}
}

// signWords are the words whose sum is the sign of a plain pool.
func signWords(p impl.Plain) []int64 {
	words := []int64{p.Blocks, int64(len(p.Vols))}
	for _, v := range p.Vols {
		words = append(words, v.Id, v.Quota)
	}
	words = append(words, int64(len(p.Cells)))
	for _, c := range p.Cells {
		words = append(words, c.Vol, c.At, c.Value)
	}
	return words
}

func signed(p impl.Plain) int64 {
	return bigSum(signWords(p))
}

func TestSignPlain(t *testing.T) {
	wantInt(t, "nothing", impl.SignPlain(impl.Plain{}), impl.OK, 55477)
	for _, c := range soundPlains() {
		wantInt(t, c.name, impl.SignPlain(c.plain), impl.OK, signed(c.plain))
		other := copyPlain(c.plain)
		other.Shares = nil
		wantInt(t, c.name+", without Shares", impl.SignPlain(other), impl.OK, signed(c.plain))
	}
	for _, c := range faultyPlains() {
		wantInt(t, c.name, impl.SignPlain(c.plain), c.code, 0)
	}
	for name, change := range plainChanges() {
		p := threeVols()
		change(&p)
		if code := impl.PlainFault(p); code != impl.OK {
			wantInt(t, name, impl.SignPlain(p), code, 0)
		} else if impl.SignPlain(p) == impl.SignPlain(threeVols()) {
			t.Errorf("%s: has the same sign", name)
		}
	}
}

func TestDeltaOfTellsFaultsFirst(t *testing.T) {
	for _, c := range faultyPlains() {
		for _, other := range soundPlains() {
			wantDeltaCode(t, c.name+": of the first", impl.DeltaOf(c.plain, other.plain), c.code)
			wantDeltaCode(t, c.name+": of the second", impl.DeltaOf(other.plain, c.plain), c.code)
		}
		for _, other := range faultyPlains() {
			wantDeltaCode(t, c.name+": of both", impl.DeltaOf(c.plain, other.plain), c.code)
		}
	}
	for _, blocks := range []int64{0, 1, 5, 7, 24} {
		wantDeltaCode(t, "other Blocks", impl.DeltaOf(threeVols(), plainShares(blocks)), impl.ErrForm)
		wantDeltaCode(t, "other Blocks", impl.DeltaOf(plainShares(blocks), threeVols()), impl.ErrForm)
		wantDeltaCode(t, "other Blocks, and nothing else", impl.DeltaOf(impl.Plain{Blocks: 6}, impl.Plain{Blocks: blocks}), impl.ErrForm)
	}
}

// wantSteps asks that the difference between both, of as many Blocks, has these steps, and that it leads there.
func wantSteps(t *testing.T, name string, a, b impl.Plain, numbers ...int64) {
	t.Helper()
	a.Blocks, b.Blocks = 24, 24
	d := deltaWith(signed(a), signed(b), b.Vols, stepsOf(numbers...))
	wantDelta(t, name, impl.DeltaOf(a, b), d)
	b.Shares = nil
	wantPlain(t, name, impl.TakeDelta(a, d), 0, 0, b)
}

func TestDeltaOf(t *testing.T) {
	one := func(cells ...int64) impl.Plain { return plainWith(24, emptyVols(5, 4), cellsOf(cells...)) }
	two := func(cells ...int64) impl.Plain { return plainWith(24, emptyVols(2, 16, 5, 4), cellsOf(cells...)) }
	wantSteps(t, "nothing", impl.Plain{}, impl.Plain{})
	wantSteps(t, "alike", threeVols(), threeVols())
	wantSteps(t, "alike but for Shares", threeVols(), plainShares(6, 1))
	wantSteps(t, "a new volume", impl.Plain{}, one())
	wantSteps(t, "a volume is gone", one(), impl.Plain{})
	wantSteps(t, "a new volume with cells", impl.Plain{}, one(5, 0, 0, 5, 15, 255), 1, 5, 0, 0, 1, 5, 15, 255)
	wantSteps(t, "a volume with cells is gone", one(5, 0, 0, 5, 15, 255), impl.Plain{})
	wantSteps(t, "a volume in each alone", plainWith(24, emptyVols(4, 4), cellsOf(4, 1, 7, 4, 2, 8)), one(5, 1, 7, 5, 3, 9), 1, 5, 1, 7, 1, 5, 3, 9)
	wantSteps(t, "a place in the first alone", one(5, 3, 9), one(), 0, 5, 3, 0)
	wantSteps(t, "a place in the first alone, with 0", one(5, 3, 0), one(), 0, 5, 3, 0)
	wantSteps(t, "a place in the second alone", one(), one(5, 3, 9), 1, 5, 3, 9)
	wantSteps(t, "a place in the second alone, with 0", one(), one(5, 3, 0), 1, 5, 3, 0)
	wantSteps(t, "another value", one(5, 3, 9), one(5, 3, 8), 1, 5, 3, 8)
	wantSteps(t, "0 in place of a value", one(5, 3, 9), one(5, 3, 0), 1, 5, 3, 0)
	wantSteps(t, "the same value", one(5, 3, 9, 5, 4, 1), one(5, 3, 9, 5, 4, 2), 1, 5, 4, 2)
	wantSteps(t, "the same value, 0", one(5, 0, 0), one(5, 0, 0))
	wantSteps(t, "all of these", one(5, 1, 1, 5, 2, 2, 5, 3, 3), one(5, 0, 7, 5, 2, 2, 5, 3, 4), 1, 5, 0, 7, 0, 5, 1, 0, 1, 5, 3, 4)
	wantSteps(t, "a value goes to the next place", one(5, 1, 1), one(5, 2, 1), 0, 5, 1, 0, 1, 5, 2, 1)
	wantSteps(t, "a value goes to the other volume", two(2, 7, 1), two(5, 7, 1), 0, 2, 7, 0, 1, 5, 7, 1)
	wantSteps(t, "the same places, the volume ahead is gone", two(2, 7, 1, 5, 7, 1), one(5, 7, 1))
	wantSteps(t, "the same places, the volume ahead is new", one(5, 7, 1), two(2, 7, 1, 5, 7, 1), 1, 2, 7, 1)
	wantSteps(t, "in order of volumes, then places", two(2, 15, 1, 5, 0, 2), two(2, 14, 3, 5, 1, 4), 1, 2, 14, 3, 0, 2, 15, 0, 0, 5, 0, 0, 1, 5, 1, 4)
}

// The volume 7 is gone in one between, and there again with another Quota and other cells.
func TestDeltaOfAVolumeThereAgain(t *testing.T) {
	a := plainWith(24, emptyVols(3, 2, 7, 3), cellsOf(3, 1, 1, 7, 0, 5, 7, 4, 6, 7, 9, 7), 4)
	gone := plainWith(24, emptyVols(3, 2), cellsOf(3, 1, 1), 1)
	again := plainWith(24, emptyVols(3, 2, 7, 2), cellsOf(3, 1, 1, 7, 4, 6, 7, 9, 0), 2)
	wantSteps(t, "gone", a, gone)
	wantSteps(t, "there again", gone, again, 1, 7, 4, 6, 1, 7, 9, 0)
	wantSteps(t, "both at once", a, again, 0, 7, 0, 0, 1, 7, 9, 0)
	wantSteps(t, "and back", again, a, 1, 7, 0, 5, 1, 7, 9, 7)
	empty := plainWith(24, emptyVols(3, 2, 7, 16), cellsOf(3, 1, 1), 1)
	wantSteps(t, "there again with nothing", a, empty, 0, 7, 0, 0, 0, 7, 4, 0, 0, 7, 9, 0)
	wantSteps(t, "with another Quota alone", empty, plainWith(24, emptyVols(3, 2, 7, 1), cellsOf(3, 1, 1)))
}

// Six volumes have no more than 96 places, and so there are never as many as 120 steps.
func TestDeltaOfAllPlaces(t *testing.T) {
	most := mostCells()
	empty := plainWith(24, most.Vols, nil)
	others := plainWith(24, emptyVols(4, 16, 5, 16, 6, 16, 51, 16, 52, 16, 53, 16), nil)
	unlike := mostCells()
	var all, none, changed, new []int64
	for i, c := range most.Cells {
		all = append(all, 1, c.Vol, c.At, c.Value)
		none = append(none, 0, c.Vol, c.At, 0)
		unlike.Cells[i].Value = c.At
		changed = append(changed, 1, c.Vol, c.At, c.At)
		id := others.Vols[i/16].Id
		others.Cells = append(others.Cells, impl.Cell{Vol: id, At: c.At, Value: c.Value})
		new = append(new, 1, id, c.At, c.Value)
	}
	wantSteps(t, "to all places", empty, most, all...)
	wantSteps(t, "from nothing to all places", impl.Plain{}, most, all...)
	wantSteps(t, "to no place", most, empty, none...)
	wantSteps(t, "to nothing", most, impl.Plain{})
	wantSteps(t, "all places have another value", most, unlike, changed...)
	wantSteps(t, "all volumes are new, and all others gone", most, others, new...)
}

func TestTakeDeltaTellsFaultsFirst(t *testing.T) {
	for _, c := range faultyPlains() {
		for _, d := range []impl.Delta{{}, threeSteps(), deltaWith(-1, 0, nil, nil), deltaWith(0, 0, make([]impl.Vol, 7), nil)} {
			wantPlainCode(t, c.name, impl.TakeDelta(c.plain, d), c.code)
		}
	}
	for _, c := range faultyDeltas() {
		for _, p := range soundPlains() {
			wantPlainCode(t, c.name, impl.TakeDelta(p.plain, c.delta), c.code)
			right := copyDelta(c.delta)
			right.From, right.To = signed(p.plain), signed(p.plain)
			if impl.DeltaFault(right) != impl.OK {
				wantPlainCode(t, c.name+", of its sign", impl.TakeDelta(p.plain, right), impl.DeltaFault(right))
			}
		}
	}
}

func TestTakeDeltaOfAnotherSign(t *testing.T) {
	a, b := threeVols(), plainCells(3, 0, 10, 9, 0, 1)
	right := impl.DeltaOf(a, b).Delta
	wantSteps(t, "right", a, b, 0, 3, 1, 0, 0, 3, 10, 0, 0, 7, 6, 0, 0, 7, 12, 0, 0, 7, 15, 0, 1, 9, 0, 1)
	for _, from := range []int64{0, 65520, right.From - 1, right.From + 1, right.To} {
		d := copyDelta(right)
		d.From = from
		wantPlainCode(t, "another From", impl.TakeDelta(a, d), impl.ErrSum)
		d.Steps = stepsOf(1, 4, 0, 0)
		wantPlainCode(t, "another From ahead of what would have a fault", impl.TakeDelta(a, d), impl.ErrSum)
	}
	for _, to := range []int64{0, 65520, right.To - 1, right.To + 1, right.From} {
		d := copyDelta(right)
		d.To = to
		wantPlainCode(t, "another To", impl.TakeDelta(a, d), impl.ErrSum)
	}
	for _, c := range soundPlains() {
		if signed(c.plain) != right.From {
			wantPlainCode(t, c.name, impl.TakeDelta(c.plain, right), impl.ErrSum)
		}
	}
	for name, change := range plainChanges() {
		p := threeVols()
		change(&p)
		if impl.PlainFault(p) == impl.OK {
			wantPlainCode(t, name, impl.TakeDelta(p, right), impl.ErrSum)
		}
	}
}

// To is now the sign of what the steps lead to, and now another one: what has a fault is told ahead of that.
func TestTakeDeltaToAFault(t *testing.T) {
	p := threeVols()
	faults := func(name string, vols []impl.Vol, steps []impl.Step, cells []impl.Cell) {
		t.Helper()
		then := plainWith(6, vols, cells)
		if impl.PlainFault(then) == impl.OK {
			t.Fatalf("%s: %v has no fault", name, then)
		}
		for _, to := range []int64{0, signed(p), signed(then)} {
			wantPlainCode(t, name, impl.TakeDelta(p, deltaWith(signed(p), to, vols, steps)), impl.ErrForm)
		}
	}
	cells := p.Cells
	faults("a step of a volume that is not among Vols", p.Vols, stepsOf(1, 99, 0, 1), append(slices.Clone(cells), cellsOf(99, 0, 1)...))
	faults("a step of a volume ahead of all Vols", p.Vols, stepsOf(1, 1, 0, 1), append(cellsOf(1, 0, 1), cells...))
	faults("a step of a volume between Vols", p.Vols, stepsOf(1, 4, 0, 0), slices.Insert(slices.Clone(cells), 3, cellsOf(4, 0, 0)...))
	faults("a step of a volume that is gone", emptyVols(7, 3, 9, 1), stepsOf(1, 3, 0, 10), append(cellsOf(3, 0, 10), cells[3:]...))
	faults("a step of a volume where there are none", nil, stepsOf(1, 3, 0, 10), cellsOf(3, 0, 10))
	faults("one cell more than the Quota", p.Vols, stepsOf(1, 7, 0, 1), slices.Insert(slices.Clone(cells), 3, cellsOf(7, 0, 1)...))
	faults("a lesser Quota", emptyVols(3, 2, 7, 3, 9, 1), nil, cells)
	faults("two cells of the last one, Quota 1", p.Vols, stepsOf(1, 9, 0, 1, 1, 9, 1, 1), append(slices.Clone(cells), cellsOf(9, 0, 1, 9, 1, 1)...))
	many := deltaWith(signed(p), 0, emptyVols(1, 16), stepsUpTo(120))
	wantPlainCode(t, "120 cells", impl.TakeDelta(p, many), impl.ErrForm)
}

// wantTaken asks what comes of a delta with these volumes and steps, whose signs are right.
func wantTaken(t *testing.T, name string, p impl.Plain, vols []impl.Vol, steps []impl.Step, cells []impl.Cell) {
	t.Helper()
	want := plainWith(p.Blocks, vols, cells)
	wantPlain(t, name, impl.TakeDelta(p, deltaWith(signed(p), signed(want), vols, steps)), 0, 0, want)
}

func TestTakeDelta(t *testing.T) {
	p := threeVols()
	cells := p.Cells
	wantTaken(t, "nothing", impl.Plain{}, nil, nil, nil)
	wantTaken(t, "no step: Shares are none then", p, p.Vols, nil, cells)
	wantTaken(t, "no volume", p, nil, nil, nil)
	wantTaken(t, "the first volume is gone", p, emptyVols(7, 3, 9, 1), nil, cells[3:])
	wantTaken(t, "a volume between is gone", p, emptyVols(3, 5, 9, 1), nil, cells[:3])
	wantTaken(t, "all volumes are others", p, emptyVols(1, 1, 99, 16), stepsOf(1, 99, 15, 255), cellsOf(99, 15, 255))
	wantTaken(t, "other Quotas", p, emptyVols(3, 3, 7, 16, 9, 16), nil, cells)
	wantTaken(t, "a value that is there already", p, p.Vols, stepsOf(1, 3, 0, 10), cells)
	wantTaken(t, "another value", p, p.Vols, stepsOf(1, 3, 0, 0), append(cellsOf(3, 0, 0), cells[1:]...))
	wantTaken(t, "one goes", p, p.Vols, stepsOf(0, 7, 15, 0), cells[:5])
	wantTaken(t, "one goes at the Quota, another one comes", p, p.Vols, stepsOf(1, 7, 0, 1, 0, 7, 15, 0), slices.Insert(slices.Clone(cells[:5]), 3, cellsOf(7, 0, 1)...))
	wantTaken(t, "one goes that is not there", p, p.Vols, stepsOf(0, 3, 2, 0, 0, 9, 0, 0), cells)
	wantTaken(t, "one goes of volumes that there are not", p, p.Vols, stepsOf(0, 1, 2, 0, 0, 8, 0, 0, 0, 99, 15, 0), cells)
	wantTaken(t, "one goes of a volume that is gone", p, emptyVols(7, 3), stepsOf(0, 3, 0, 0), cells[3:])
	wantTaken(t, "cells where there are no blocks", plainShares(0), p.Vols, stepsOf(1, 9, 3, 4), append(slices.Clone(cells), cellsOf(9, 3, 4)...))
	most := mostCells()
	wantTaken(t, "all places", impl.Plain{Blocks: 24}, most.Vols, impl.DeltaOf(impl.Plain{Blocks: 24}, most).Delta.Steps, most.Cells)
}
