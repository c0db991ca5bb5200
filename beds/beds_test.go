package beds_test

import (
	"math"
	"math/rand"
	"testing"

	"bathyal/api"
	"bathyal/beds"
)

// sizes is the sponges of each class in truth, and truths all that can be true.
type sizes [api.BedsClasses]int

type truths map[sizes]bool

// begin returns all that can be true of a bed at first.
func begin(b api.BedsBed) truths {
	all := truths{{}: true}
	for class, s := range b.Start {
		next := truths{}
		for x := range all {
			for n := s.Low; n <= s.High; n++ {
				x[class] = n
				next[x] = true
			}
		}
		all = next
	}
	return all
}

// grown returns all that can be true a year after a cut.
func (all truths) grown(b api.BedsBed, cut int) truths {
	next := truths{}
	for x := range all {
		x[3] -= cut
		x[0] += cut
		for i := x[0] * b.Low / 100; i <= x[0]*b.High/100; i++ {
			for j := x[1] * b.Low / 100; j <= x[1]*b.High/100; j++ {
				for k := x[2] * b.Low / 100; k <= x[2]*b.High/100; k++ {
					next[sizes{x[0] - i, x[1] + i - j, x[2] + j - k, x[3] + k}] = true
				}
			}
		}
	}
	return next
}

// bounds returns between which bounds a class with all greater ones lies.
func (all truths) bounds(class int) api.Span {
	s := sp(math.MaxInt, -1)
	for x := range all {
		sum := 0
		for _, n := range x[class:] {
			sum += n
		}
		s.Low, s.High = min(s.Low, sum), max(s.High, sum)
	}
	return s
}

// lawful reports whether a cut is lawful, by the definition.
func (all truths) lawful(b api.BedsBed, cut int) bool {
	sure := all.bounds(3).Low
	if cut < 1 || sure < b.Full || sure-cut < b.Leave {
		return false
	}
	for year := range b.Within {
		if year > 0 {
			cut = 0
		}
		all = all.grown(b, cut)
	}
	return all.bounds(3).Low >= b.Full
}

// most returns the greatest lawful cut, by the definition.
func (all truths) most(b api.BedsBed) int {
	most := 0
	for cut := 1; cut <= all.bounds(3).Low; cut++ {
		if all.lawful(b, cut) {
			most = cut
		}
	}
	return most
}

// smallBed returns a bed of few sponges.
func smallBed(r *rand.Rand) api.BedsBed {
	rate := span(r, 100, 40)
	if r.Intn(2) == 0 {
		rate = sp(50+r.Intn(51), 100)
	}
	b := api.BedsBed{Low: rate.Low, High: rate.High, Within: 1 + r.Intn(4)}
	for range api.BedsClasses {
		b.Start = append(b.Start, span(r, 4, 1))
	}
	b.Full = r.Intn(b.Start[3].Low + 2)
	b.Leave = r.Intn(b.Full + 1)
	return b
}

// largeBed returns a bed of any size, which can often be cut.
func largeBed(r *rand.Rand) api.BedsBed {
	rate := span(r, 100, 30)
	b := api.BedsBed{Low: rate.Low, High: rate.High, Within: 1 + r.Intn(6)}
	for range api.BedsClasses {
		b.Start = append(b.Start, span(r, api.BedsPieces, 10))
	}
	b.Full = r.Intn(b.Start[3].Low + 1)
	b.Leave = r.Intn(b.Full + 1)
	return b
}

// P1.1
func TestCheck(t *testing.T) {
	full := bedWith(func(b *api.BedsBed) {
		b.Start = []api.Span{sp(0, 200), sp(200, 200), sp(0, 0), sp(200, 200)}
		b.Low, b.High, b.Full, b.Leave, b.Within = 0, 100, 800, 800, 6
	})
	for _, g := range []api.BedsGround{groundG(), groundOf(4, 4, full, full, full, full), groundOf(1, 1, bedWith(func(b *api.BedsBed) { b.Low, b.High, b.Full, b.Leave, b.Within = 0, 0, 0, 0, 1 }))} {
		wantErr(t, "Check", beds.Check(g), api.OK)
	}
	for i, g := range badGrounds() {
		if e := beds.Check(g); e != api.ErrArg {
			t.Error(i, e)
		}
	}
}

// P1.1
func TestKnown(t *testing.T) {
	still := bedWith(func(b *api.BedsBed) { b.Low, b.High = 0, 0 })
	for i, x := range []struct {
		bed   api.BedsBed
		years int
		want  []api.Span
	}{
		{bedA(), 0, []api.Span{sp(40, 44), sp(40, 44), sp(30, 32), sp(20, 22)}},
		{bedA(), 1, []api.Span{sp(40, 44), sp(40, 44), sp(35, 44), sp(25, 32)}},
		{bedA(), 2, []api.Span{sp(40, 44), sp(40, 44), sp(37, 44), sp(30, 44)}},
		{still, 6, []api.Span{sp(40, 44), sp(40, 44), sp(30, 32), sp(20, 22)}},
		// all grow together, so that a foot needs three years
		{api.BedsBed{Start: []api.Span{sp(200, 200), sp(0, 0), sp(0, 0), sp(0, 0)}, Low: 99, High: 100, Within: 1}, 3, []api.Span{sp(200, 200), sp(199, 200), sp(198, 200), sp(194, 200)}},
	} {
		if got, e := beds.Known(x.bed, x.years); e != api.OK || !equal(got, x.want) {
			t.Error(i, got, e)
		}
	}
	for _, years := range []int{-1, 7, math.MinInt, math.MaxInt} {
		if got, e := beds.Known(bedA(), years); e != api.ErrArg || len(got) > 0 {
			t.Error(years, got, e)
		}
	}
	for i, b := range badBeds() {
		if got, e := beds.Known(b, 0); e != api.ErrArg || len(got) > 0 {
			t.Error(i, got, e)
		}
	}
}

// P1.1: whatever is true lies between the bounds, and each end is reached
func TestKnownOfAllTruths(t *testing.T) {
	r := source(1)
	for range 120 {
		b := smallBed(r)
		all := begin(b)
		for years := range 5 {
			got, e := beds.Known(b, years)
			if e != api.OK || len(got) != api.BedsClasses {
				t.Fatal(b, years, got, e)
			}
			for class, s := range got {
				if want := all.bounds(class); s != want {
					t.Fatal(b, years, class, s, want)
				}
			}
			all = all.grown(b, 0)
		}
	}
}

// P1.2
func TestMayAndMost(t *testing.T) {
	foot := api.BedsBed{Start: []api.Span{sp(0, 0), sp(0, 0), sp(0, 0), sp(5, 5)}, Low: 100, High: 100, Full: 5, Within: 3}
	soon, empty := foot, api.BedsBed{Start: make([]api.Span, 4), Within: 1}
	soon.Within = 2
	for i, x := range []struct {
		bed  api.BedsBed
		want int
	}{
		{bedA(), 10},
		{bedWith(func(b *api.BedsBed) { b.Leave = 15 }), 5},
		{bedWith(func(b *api.BedsBed) { b.Leave = 20 }), 0},
		{bedWith(func(b *api.BedsBed) { b.Full = 21 }), 0},
		{bedWith(func(b *api.BedsBed) { b.Within = 1 }), 5},
		{bedWith(func(b *api.BedsBed) { b.Low, b.High = 0, 0 }), 0},
		{bedWith(func(b *api.BedsBed) { b.Leave = 0 }), 10},
		{bedWith(func(b *api.BedsBed) { b.Full, b.Leave = 0, 0 }), 20},
		{foot, 5}, {soon, 0}, {empty, 0},
	} {
		if got, e := beds.Most(x.bed); e != api.OK || got != x.want {
			t.Error(i, got, e)
		}
		for cut := range 25 {
			if got, e := beds.May(x.bed, cut); e != api.OK || got != (cut >= 1 && cut <= x.want) {
				t.Error(i, cut, got, e)
			}
		}
	}
	if got, e := beds.May(bedA(), math.MaxInt); e != api.OK || got {
		t.Error(got, e)
	}
	for _, cut := range []int{-1, math.MinInt} {
		if got, e := beds.May(bedA(), cut); e != api.ErrArg || got {
			t.Error(cut, got, e)
		}
	}
	for i, b := range badBeds() {
		n, e := beds.Most(b)
		is, f := beds.May(b, 1)
		if e != api.ErrArg || f != api.ErrArg || n != 0 || is {
			t.Error(i, n, e, is, f)
		}
	}
}

// P1.2: a lawful cut is one in all truths, and one sponge more is not
func TestMostOfAllTruths(t *testing.T) {
	r, cut := source(2), 0
	for range 150 {
		b := smallBed(r)
		all := begin(b)
		most, e := beds.Most(b)
		if want := all.most(b); e != api.OK || most != want {
			t.Fatal(b, most, want, e)
		}
		for n := range most + 2 {
			if is, e := beds.May(b, n); e != api.OK || is != all.lawful(b, n) {
				t.Fatal(b, n, is, e)
			}
		}
		cut += most
	}
	if cut == 0 {
		t.Error("nothing was cut")
	}
}

// P1.10: closer bounds never make a lawful cut unlawful
func TestCloserBounds(t *testing.T) {
	r := source(3)
	lawful := 0
	for range 2000 {
		b := largeBed(r)
		most, e := beds.Most(b)
		if e != api.OK {
			t.Fatal(b, e)
		}
		c := b
		c.Start = nil
		for _, s := range b.Start {
			low := s.Low + r.Intn(s.High-s.Low+1)
			c.Start = append(c.Start, sp(low, low+r.Intn(s.High-low+1)))
		}
		c.Low += r.Intn(b.High - b.Low + 1)
		c.High -= r.Intn(b.High - c.Low + 1)
		for cut := 1; cut <= most; cut++ {
			if is, e := beds.May(c, cut); e != api.OK || !is {
				t.Fatal(b, c, cut, is, e)
			}
			lawful++
		}
	}
	if lawful == 0 {
		t.Error("no cut was lawful")
	}
}
