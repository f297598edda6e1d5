package tests

import (
	"slices"
	"testing"

	"loop.example/g00277/impl"
)

// valuesOf are the values by volume and place.
func valuesOf(p impl.Plain) map[[2]int64]int64 {
	values := map[[2]int64]int64{}
	for _, c := range p.Cells {
		values[[2]int64{c.Vol, c.At}] = c.Value
	}
	return values
}

func hasVol(list []impl.Vol, id int64) bool {
	return slices.ContainsFunc(list, func(v impl.Vol) bool { return v.Id == id })
}

// stepsTo are the steps from the one to the other, told by asking each place that there can be.
func stepsTo(a, b impl.Plain) []impl.Step {
	was, is := valuesOf(a), valuesOf(b)
	var list []impl.Step
	for id := int64(1); id <= 99; id++ {
		for at := range int64(16) {
			old, had := was[[2]int64{id, at}]
			value, has := is[[2]int64{id, at}]
			if has && (!had || old != value) || had && !has && hasVol(b.Vols, id) {
				list = append(list, impl.Step{Has: has, Vol: id, At: at, Value: value})
			}
		}
	}
	return list
}

// afterSteps is what comes of a delta, with a fault or not, told by all volumes and places that there can be.
func afterSteps(p impl.Plain, d impl.Delta) impl.Plain {
	values := valuesOf(p)
	for key := range values {
		if !hasVol(d.Vols, key[0]) {
			delete(values, key)
		}
	}
	for _, s := range d.Steps {
		delete(values, [2]int64{s.Vol, s.At})
		if s.Has {
			values[[2]int64{s.Vol, s.At}] = s.Value
		}
	}
	then := plainWith(p.Blocks, d.Vols, nil)
	for id := int64(1); id <= 99; id++ {
		for at := range int64(16) {
			if value, has := values[[2]int64{id, at}]; has {
				then.Cells = append(then.Cells, impl.Cell{Vol: id, At: at, Value: value})
			}
		}
	}
	return then
}

// takenOf is what TakeDelta must tell where neither has a fault.
func takenOf(p impl.Plain, d impl.Delta) (impl.Plain, int64) {
	then := afterSteps(p, d)
	switch {
	case signed(p) != d.From:
		return impl.Plain{}, impl.ErrSum
	case impl.PlainFault(then) != impl.OK:
		return impl.Plain{}, impl.ErrForm
	case signed(then) != d.To:
		return impl.Plain{}, impl.ErrSum
	}
	return then, impl.OK
}

// joined are the words again, told in chunks of n.
func joined(t *testing.T, words []int64, n int64) []int64 {
	t.Helper()
	var all []int64
	for at := int64(0); ; at += n {
		chunk := impl.ChunkDelta(words, min(at, int64(len(words))), n)
		if chunk.Code != impl.OK {
			t.Fatalf("a chunk of %d at %d: got %v", n, at, chunk)
		}
		if len(chunk.List) == 0 {
			return all
		}
		all = append(all, chunk.List...)
	}
}

// wantLeads asks for all that is promised of the difference from a to b.
func wantLeads(t *testing.T, a, b impl.Plain) {
	t.Helper()
	got := impl.DeltaOf(a, b)
	want := deltaWith(signed(a), signed(b), b.Vols, stepsTo(a, b))
	if got.Code != impl.OK || !sameDelta(got.Delta, want) || impl.DeltaFault(got.Delta) != impl.OK {
		t.Fatalf("from %v to %v: got %v, want %v", a, b, got, want)
	}
	lone := copyPlain(b)
	lone.Shares = nil
	taken := impl.TakeDelta(a, got.Delta)
	if taken.Code != impl.OK || !samePlain(taken.Plain, lone) || !impl.SamePlains(taken.Plain, b) || impl.PlainFault(taken.Plain) != impl.OK {
		t.Fatalf("from %v to %v: taken %v", a, b, taken)
	}
	words := impl.PackDelta(got.Delta)
	if words.Code != impl.OK || !slices.Equal(words.List, packed(want)) {
		t.Fatalf("from %v to %v: the words %v", a, b, words)
	}
	for n := int64(1); n <= 20; n++ {
		all := joined(t, words.List, n)
		read := impl.UnpackDelta(all)
		if read.Code != impl.OK || !sameDelta(read.Delta, want) || !slices.Equal(impl.PackDelta(read.Delta).List, all) {
			t.Fatalf("from %v to %v: in chunks of %d %v, read %v", a, b, n, all, read)
		}
		if n == 7 {
			again := impl.TakeDelta(a, read.Delta)
			wantPlain(t, "by words", again, 0, 0, lone)
		}
	}
}

func wantBelongs(t *testing.T, d impl.Delta, p impl.Plain) {
	t.Helper()
	want, code := takenOf(p, d)
	got := impl.TakeDelta(p, d)
	if got.Code != code || !samePlain(got.Plain, want) || got.Reply != 0 || got.Value != 0 {
		t.Fatalf("%v, taken of %v: got %v, want the code %d, %v", d, p, got, code, want)
	}
	if code == impl.OK && impl.PlainFault(got.Plain) != impl.OK {
		t.Fatalf("%v, taken of %v: a fault of %v", d, p, got)
	}
}

// anyPlain has few ids and few values, so that two of them often have something in common.
func anyPlain(x *dice, blocks int64) impl.Plain {
	p := impl.Plain{Blocks: blocks}
	many := x.upTo(3)
	for _, id := range []int64{1, 2, 3, 49, 50, 51, 98, 99} {
		if len(p.Vols) == 6 || x.upTo(3) < many {
			continue
		}
		v := impl.Vol{Id: id, Quota: 1 + x.upTo(16), Root: -1}
		p.Vols = append(p.Vols, v)
		room := x.upTo(v.Quota + 1)
		for at := range int64(16) {
			if room > 0 && x.upTo(2) == 0 {
				p.Cells = append(p.Cells, impl.Cell{Vol: id, At: at, Value: x.upTo(3) * 127})
				room--
			}
		}
	}
	if blocks > 0 && x.upTo(2) == 0 {
		p.Shares = []int64{1 + x.upTo(blocks)}
	}
	return p
}

func TestDifferencesLead(t *testing.T) {
	x := &dice{state: 7}
	for _, blocks := range []int64{0, 1, 6, 24} {
		for range 600 {
			a, b, other := anyPlain(x, blocks), anyPlain(x, blocks), anyPlain(x, x.upTo(25))
			if impl.PlainFault(a) != impl.OK || impl.PlainFault(b) != impl.OK {
				t.Fatalf("a fault of %v or %v", a, b)
			}
			wantLeads(t, a, b)
			wantLeads(t, b, a)
			wantLeads(t, a, a)
			d := impl.DeltaOf(a, b).Delta
			wantBelongs(t, d, a)
			wantBelongs(t, d, b)
			wantBelongs(t, d, other)
			if signed(other) != signed(a) {
				wantPlainCode(t, "of another one", impl.TakeDelta(other, d), impl.ErrSum)
			}
			if a.Blocks != other.Blocks {
				wantDeltaCode(t, "other Blocks", impl.DeltaOf(a, other), impl.ErrForm)
			}
		}
	}
}

func TestDifferencesOfSoundPlainsLead(t *testing.T) {
	for _, a := range soundPlains() {
		for _, b := range soundPlains() {
			if a.plain.Blocks != b.plain.Blocks {
				wantDeltaCode(t, a.name+", "+b.name, impl.DeltaOf(a.plain, b.plain), impl.ErrForm)
			}
			from, to := copyPlain(a.plain), copyPlain(b.plain)
			from.Blocks, to.Blocks = 24, 24
			wantLeads(t, from, to)
		}
	}
}

// Pools with trees are walked on, and what each one is like is reached from what one some steps ahead was like.
func TestDifferencesOfAWalkLead(t *testing.T) {
	x := &dice{state: 70}
	for _, blocks := range []int64{3, 12, 24} {
		p := impl.NewPool(blocks).Pool
		behind := []impl.Plain{impl.PlainOf(p).Plain}
		follower := behind[0]
		for range 400 {
			p = impl.ApplyOp(p, anyOp(x)).Pool
			like := impl.PlainOf(p).Plain
			wantLeads(t, behind[x.upTo(int64(len(behind)))], like)
			if x.upTo(5) == 0 {
				follower = impl.TakeDelta(follower, impl.DeltaOf(follower, like).Delta).Plain
				if !impl.SamePlains(follower, like) {
					t.Fatalf("the follower is at %v, want %v", follower, like)
				}
			}
			behind = append(behind, like)
		}
	}
}

// changedDelta is the delta with one thing in it that is another one; it may have a fault then.
func changedDelta(x *dice, d impl.Delta) impl.Delta {
	d = copyDelta(d)
	switch k := x.upTo(7); {
	case k == 0:
		d.To = x.upTo(65521)
	case k == 1 && len(d.Vols) > 0:
		at := int(x.upTo(int64(len(d.Vols))))
		d.Vols = slices.Delete(d.Vols, at, at+1)
	case k == 2 && len(d.Vols) > 0:
		d.Vols[x.upTo(int64(len(d.Vols)))].Quota = 1 + x.upTo(16)
	case k == 3 && len(d.Steps) > 0:
		at := int(x.upTo(int64(len(d.Steps))))
		d.Steps = slices.Delete(d.Steps, at, at+1)
	case k == 4 && len(d.Steps) > 0:
		d.Steps[x.upTo(int64(len(d.Steps)))].Vol = 1 + x.upTo(99)
	case k == 5:
		d.Steps = append(d.Steps, impl.Step{Has: x.upTo(2) == 0, Vol: 99, At: 15})
	default:
		d.Steps = slices.Insert(d.Steps, 0, impl.Step{Has: x.upTo(2) == 0, Vol: 1, At: 0})
	}
	return d
}

// Once the sign To is made right as well, just what comes of the steps decides.
func TestChangedDifferences(t *testing.T) {
	x := &dice{state: 700}
	codes := map[int64]int{}
	for range 6000 {
		a := anyPlain(x, 24)
		d := changedDelta(x, impl.DeltaOf(a, anyPlain(x, 24)).Delta)
		if code := impl.DeltaFault(d); code != impl.OK {
			wantPlainCode(t, "a delta with a fault", impl.TakeDelta(a, d), code)
			wantInts(t, "a delta with a fault", impl.PackDelta(d), code, nil)
			continue
		}
		wantBelongs(t, d, a)
		codes[impl.TakeDelta(a, d).Code]++
		d.To = signed(afterSteps(a, d))
		wantBelongs(t, d, a)
		codes[impl.TakeDelta(a, d).Code]++
	}
	for _, code := range []int64{impl.OK, impl.ErrForm, impl.ErrSum} {
		if codes[code] < 500 {
			t.Errorf("the code %d came %d times", code, codes[code])
		}
	}
}
