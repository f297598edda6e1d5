package tests

import (
	"math"
	"slices"
	"testing"

	"loop.example/g00277/impl"
)

// roomyPlain has room behind the end of each list, where a careless append would write.
func roomyPlain() impl.Plain {
	p := impl.PlainOf(roomyPool()).Plain
	p.Vols = append(make([]impl.Vol, 0, 12), p.Vols...)
	p.Cells = append(make([]impl.Cell, 0, 120), p.Cells...)
	p.Shares = append(make([]int64, 0, 9), p.Shares...)
	return p
}

// wholePlain has what stands behind the ends of the lists as well.
func wholePlain(p impl.Plain) impl.Plain {
	return copyPlain(plainWith(p.Blocks, p.Vols[:cap(p.Vols)], p.Cells[:cap(p.Cells)], p.Shares[:cap(p.Shares)]...))
}

func scribblePlain(p impl.Plain) {
	for i := range p.Vols[:cap(p.Vols)] {
		p.Vols[:cap(p.Vols)][i] = impl.Vol{Id: -77, Quota: -77, Root: -77}
	}
	for i := range p.Cells[:cap(p.Cells)] {
		p.Cells[:cap(p.Cells)][i] = impl.Cell{Vol: -77, At: -77, Value: -77}
	}
	for i := range p.Shares[:cap(p.Shares)] {
		p.Shares[:cap(p.Shares)][i] = -77
	}
}

func askPlain(p impl.Plain) {
	for _, id := range []int64{math.MinInt64, 0, 3, 8, 9, math.MaxInt64} {
		for _, at := range []int64{math.MinInt64, -1, 0, 15, 16, math.MaxInt64} {
			impl.CellIn(p, id, at)
		}
	}
	impl.PlainFault(p)
	impl.CellsText(p)
	impl.SamePlains(p, p)
	impl.SamePlains(p, threeVols())
	impl.SamePlains(threeVols(), p)
	for _, o := range append(wrongOps(), poolOps()...) {
		impl.ApplyPlain(p, o, false)
		impl.ApplyPlain(p, o, true)
	}
}

func TestPlainCallsChangeNoArgument(t *testing.T) {
	p := roomyPlain()
	ahead := wholePlain(p)
	for _, o := range poolOps() {
		for _, full := range []bool{false, true} {
			if got := impl.ApplyPlain(p, o, full); got.Code != impl.OK || !samePlain(wholePlain(p), ahead) {
				t.Errorf("%v: code %d, changed to %v", o, got.Code, wholePlain(p))
			}
		}
	}
	askPlain(p)
	if !samePlain(wholePlain(p), ahead) {
		t.Errorf("changed to %v", wholePlain(p))
	}
}

func TestPlainCodesChangeNoArgument(t *testing.T) {
	for _, c := range append(faultyPlains(), soundPlains()...) {
		ahead := copyPlain(c.plain)
		askPlain(c.plain)
		if !samePlain(c.plain, ahead) {
			t.Errorf("%s: changed", c.name)
		}
	}
	for _, c := range append(faultyPools(), soundPools()...) {
		ahead := copyPool(c.pool)
		impl.PlainOf(c.pool)
		if !samePool(c.pool, ahead) {
			t.Errorf("%s: changed", c.name)
		}
	}
}

func TestPlainAnswersShareNoMemory(t *testing.T) {
	for _, o := range poolOps() {
		for _, full := range []bool{false, true} {
			p := roomyPlain()
			ahead := wholePlain(p)
			got := impl.ApplyPlain(p, o, full)
			want := copyPlain(got.Plain)
			scribblePlain(got.Plain)
			if !samePlain(wholePlain(p), ahead) {
				t.Errorf("%v: what is written into its answer is in its argument", o)
			}
			got = impl.ApplyPlain(p, o, full)
			scribblePlain(p)
			if !samePlain(got.Plain, want) {
				t.Errorf("%v: what is written into its argument is in its answer", o)
			}
			again := impl.ApplyPlain(roomyPlain(), o, full)
			if !samePlain(again.Plain, want) || again.Reply != got.Reply || again.Value != got.Value {
				t.Errorf("%v: another answer at the same arguments: %v", o, again)
			}
		}
	}
}

func TestPlainOfSharesNoMemory(t *testing.T) {
	p := roomyPool()
	ahead := wholePool(p)
	got := impl.PlainOf(p)
	want := copyPlain(got.Plain)
	scribblePlain(got.Plain)
	if !samePool(wholePool(p), ahead) {
		t.Error("what is written into its answer is in its argument, or its argument is changed")
	}
	got = impl.PlainOf(p)
	scribblePool(p)
	if !samePlain(got.Plain, want) {
		t.Error("what is written into its argument is in its answer")
	}
	wantPlain(t, "once more", impl.PlainOf(roomyPool()), 0, 0, want)
}

// A pool has cells of many volumes and places, so that an order that is not sure would be seen.
func TestPlainAnswersAreTheSameEachTime(t *testing.T) {
	p := crowdedPool()
	first, text := impl.PlainOf(p), impl.CellsText(mostCells())
	for range 50 {
		if got := impl.PlainOf(p); !samePlain(got.Plain, first.Plain) {
			t.Fatalf("got %v, and %v", got, first)
		}
		if got := impl.ApplyPlain(mostCells(), opOf(impl.OpRead, 50, 5, 0), false); !slices.Equal(got.Plain.Cells, mostCells().Cells) {
			t.Fatalf("got %v", got)
		}
		wantText(t, "96 cells", impl.CellsText(mostCells()), impl.OK, text.Text)
	}
}
