package loft_test

import (
	"math/rand"
	"slices"
	"testing"

	"bathyal/api"
	"bathyal/loft"
)

// P6.7
func TestPacks(t *testing.T) {
	for i, x := range []struct {
		items   []api.LoftString
		limit   int
		packing []int
		want    bool
		e       api.Errno
	}{
		{itemsL(), 70, l(0, 0, 1, 2), true, api.OK}, {itemsL(), 69, l(0, 0, 1, 2), false, api.OK}, {itemsL(), 70, l(0, 1, 0, 2), false, api.OK}, {itemsL(), 100, l(0, 1, 0, 2), true, api.OK}, {itemsL(), 99, l(0, 1, 0, 2), false, api.OK}, {itemsL(), 89, l(0, 1, 1, 2), false, api.OK}, {itemsL(), 90, l(0, 1, 1, 2), true, api.OK}, {itemsL(), 59, l(0, 1, 2, 3), false, api.OK}, {itemsL(), 60, l(0, 1, 2, 3), true, api.OK}, {itemsL(), 130, l(0, 0, 0, 1), true, api.OK}, {itemsL(), 129, l(0, 0, 0, 1), false, api.OK},
		// strings of different grades
		{itemsL(), api.LoftLimit, l(0, 0, 0, 0), false, api.OK}, {itemsL(), api.LoftLimit, l(0, 1, 2, 0), false, api.OK}, {itemsL(), api.LoftLimit, l(0, 1, 2, 1), false, api.OK}, {itemsL(), api.LoftLimit, l(0, 1, 2, 2), false, api.OK}, {[]api.LoftString{item(1, 0, 0), item(0, 0, 0), item(1, 0, 0)}, 1, l(0, 1, 0), true, api.OK}, {[]api.LoftString{item(1, 0, 0), item(0, 0, 0), item(1, 0, 0)}, 1, l(0, 1, 1), false, api.OK},
		{nil, 1, nil, true, api.OK}, {[]api.LoftString{item(0, 0, 1)}, 1, l(0), true, api.OK}, {[]api.LoftString{item(0, 0, 2)}, 1, l(0), false, api.OK}, {slices.Repeat([]api.LoftString{item(0, 10000, 10000)}, 5), api.LoftLimit, l(0, 0, 0, 0, 0), true, api.OK}, {slices.Repeat([]api.LoftString{item(0, 10000, 10000)}, 6), api.LoftLimit, l(0, 0, 0, 0, 0, 0), false, api.OK},
		{nil, 1, l(0), false, api.ErrArg}, {itemsL(), 0, l(0, 0, 1, 2), false, api.ErrArg}, {nil, 0, nil, false, api.ErrArg},
	} {
		if is, e := loft.Packs(x.items, x.limit, x.packing); e != x.e || is != x.want {
			t.Error(i, is, e)
		}
	}
	for i, x := range []struct {
		packing []int
		want    []api.Span
	}{
		{l(0, 0, 1, 2), []api.Span{sp(50, 70), sp(50, 60), sp(10, 20)}}, {l(0, 1, 0, 2), []api.Span{sp(80, 100), sp(20, 30), sp(10, 20)}}, {l(0, 0, 0, 0), []api.Span{sp(110, 150)}}, {l(0, 1, 2, 0), []api.Span{sp(40, 60), sp(20, 30), sp(50, 60)}}, {l(0, 1, 2, 3), []api.Span{sp(30, 40), sp(20, 30), sp(50, 60), sp(10, 20)}}, {l(0, 1, 1, 0), []api.Span{sp(40, 60), sp(70, 90)}},
	} {
		if w, e := loft.Weigh(itemsL(), x.packing); e != api.OK || !equal(w, x.want) {
			t.Error(i, w, e)
		}
	}
	if w, e := loft.Weigh(nil, nil); e != api.OK || len(w) != 0 {
		t.Error(w, e)
	}
}

// P6.7, P6.8: strings, a packing and a limit that are not as defined
func TestPacksErrors(t *testing.T) {
	check := func(items []api.LoftString, limit int, packing []int) {
		t.Helper()
		if is, e := loft.Packs(items, limit, packing); e != api.ErrArg || is {
			t.Error(items, limit, packing, is, e)
		}
	}
	both := func(items []api.LoftString, packing []int) {
		t.Helper()
		check(items, 100, packing)
		if w, e := loft.Weigh(items, packing); e != api.ErrArg || len(w) != 0 {
			t.Error(items, packing, w, e)
		}
		if text, e := loft.Print(items, packing); e != api.ErrArg || text != "" {
			t.Error(items, packing, text, e)
		}
	}
	for _, items := range badItems() {
		both(items, make([]int, len(items)))
		if p, n, e := loft.Pack(items, 100); e != api.ErrArg || n != 0 || len(p) != 0 {
			t.Error(items, p, n, e)
		}
	}
	for _, packing := range badPackings() {
		both(itemsL(), packing)
	}
	for _, limit := range badNumbers(1, api.LoftLimit) {
		check(itemsL(), limit, l(0, 0, 1, 2))
		for _, items := range [][]api.LoftString{itemsL(), nil} {
			if p, n, e := loft.Pack(items, limit); e != api.ErrArg || n != 0 || len(p) != 0 {
				t.Error(limit, p, n, e)
			}
		}
	}
}

// P6.7
func TestPack(t *testing.T) {
	light := slices.Repeat([]api.LoftString{item(4, 0, 0)}, 7)
	full := slices.Repeat([]api.LoftString{item(0, 10000, 10000)}, 7)
	for i, x := range []struct {
		items []api.LoftString
		limit int
		want  []int
		bales int
		e     api.Errno
	}{
		{itemsL(), 70, l(0, 0, 1, 2), 3, api.OK}, {itemsL(), 100, l(0, 0, 1, 2), 3, api.OK}, {itemsL(), 129, l(0, 0, 1, 2), 3, api.OK}, {itemsL(), 130, l(0, 0, 0, 1), 2, api.OK}, {itemsL(), 69, l(0, 1, 2, 3), 4, api.OK}, {itemsL(), 60, l(0, 1, 2, 3), 4, api.OK}, {itemsL(), api.LoftLimit, l(0, 0, 0, 1), 2, api.OK},
		{itemsL(), 59, nil, 0, api.ErrNone}, {itemsL(), 1, nil, 0, api.ErrNone}, {[]api.LoftString{item(0, 0, 2)}, 1, nil, 0, api.ErrNone}, {[]api.LoftString{item(0, 0, 1), item(0, 1, 2)}, 1, nil, 0, api.ErrNone},
		{nil, 1, nil, 0, api.OK}, {[]api.LoftString{item(0, 0, 1)}, 1, l(0), 1, api.OK}, {light, 1, l(0, 0, 0, 0, 0, 0, 0), 1, api.OK}, {full, api.LoftLimit, l(0, 0, 0, 0, 0, 1, 1), 2, api.OK}, {full, 10000, l(0, 1, 2, 3, 4, 5, 6), 7, api.OK}, {full, 9999, nil, 0, api.ErrNone},
		// who fills the first bale first needs more
		{[]api.LoftString{item(0, 0, 4), item(0, 0, 3), item(0, 0, 6), item(0, 0, 7)}, 10, l(0, 1, 0, 1), 2, api.OK}, {[]api.LoftString{item(0, 0, 3), item(0, 0, 3), item(0, 0, 2), item(0, 0, 2), item(0, 0, 2)}, 6, l(0, 0, 1, 1, 1), 2, api.OK}, {[]api.LoftString{item(0, 0, 3), item(0, 0, 2), item(0, 0, 3), item(0, 0, 2), item(0, 0, 2)}, 6, l(0, 1, 0, 1, 1), 2, api.OK},
		// grades that alternate
		{[]api.LoftString{item(1, 0, 5), item(0, 0, 5), item(1, 0, 5), item(0, 0, 5), item(1, 0, 5)}, 10, l(0, 1, 0, 1, 2), 3, api.OK}, {[]api.LoftString{item(4, 0, 0), item(3, 0, 0), item(2, 0, 0), item(1, 0, 0), item(0, 0, 0), item(2, 0, 0), item(4, 0, 0)}, 1, l(0, 1, 2, 3, 4, 2, 0), 5, api.OK},
	} {
		if p, n, e := loft.Pack(x.items, x.limit); e != x.e || n != x.bales || !equal(p, x.want) {
			t.Error(i, p, n, e)
		}
	}
}

// isPacking reports whether a list is a packing, by the definition.
func isPacking(list []int) bool {
	for i, n := range list {
		if i == 0 && n != 0 || n < 0 || i > 0 && n > slices.Max(list[:i])+1 {
			return false
		}
	}
	return true
}

// suitable reports whether a packing suits a limit, by the definition.
func suitable(items []api.LoftString, limit int, packing []int) bool {
	var weights [api.LoftItems]int
	for i, a := range packing {
		weights[a] += items[i].Weight.High
		for k, b := range packing {
			if a == b && items[i].Grade != items[k].Grade {
				return false
			}
		}
	}
	return slices.Max(weights[:]) <= limit
}

// eachPacking calls a function with all packings of so many strings, in lexicographic order.
func eachPacking(many int, do func(packing []int)) {
	list := make([]int, many)
	for {
		if isPacking(list) {
			do(list)
		}
		at := many - 1
		for at >= 0 && list[at] == many-1 {
			list[at] = 0
			at--
		}
		if at < 0 {
			return
		}
		list[at]++
	}
}

// anyLimit returns a limit that is near the weights of some of the strings.
func anyLimit(r *rand.Rand, items []api.LoftString) int {
	limit := anyOf(r, -1, 1)
	for i, s := range items {
		if i == 0 || r.Intn(2) == 0 {
			limit += s.Weight.High
		}
	}
	return min(max(limit, 1), api.LoftLimit)
}

// P6.7: the packing is the first one of all that suit and have the fewest bales
func TestPackOfAny(t *testing.T) {
	r := source(13)
	met := map[int]int{}
	check := func(many int) {
		items := anyItems(r, many)
		limit := anyLimit(r, items)
		var want []int
		bales := -1
		eachPacking(many, func(packing []int) {
			if !suitable(items, limit, packing) {
				return
			}
			of := 0
			if many > 0 {
				of = 1 + slices.Max(packing)
			}
			if bales < 0 || of < bales {
				want, bales = slices.Clone(packing), of
			}
		})
		p, n, e := loft.Pack(items, limit)
		if bales < 0 && (e != api.ErrNone || n != 0 || len(p) != 0) || bales >= 0 && (e != api.OK || n != bales || !equal(p, want)) {
			t.Fatal(items, limit, p, n, e, want, bales)
		}
		met[bales]++
	}
	for range 1500 {
		check(r.Intn(6))
	}
	for range 40 {
		check(6)
	}
	for range 4 {
		check(7)
	}
	wantAll(t, met, -1, 0, 1, 2, 3, 4, 5)
}

// P6.7: what somebody proposes suits by the definition, and has no fewer bales; whatever strings weigh, each bale weighs at most the limit, and as much as is told
func TestPacksOfAny(t *testing.T) {
	r := source(14)
	met := map[bool]int{}
	for range 4000 {
		items := anyItems(r, r.Intn(api.LoftItems+1))
		if r.Intn(2) == 0 {
			for i := range items {
				items[i].Grade = 0
			}
		}
		limit, packing := anyLimit(r, items), anyPacking(r, len(items))
		is, e := loft.Packs(items, limit, packing)
		if e != api.OK || is != suitable(items, limit, packing) {
			t.Fatal(items, limit, packing, is, e)
		}
		spans, e := loft.Weigh(items, packing)
		weights, lows, highs := make([]int, len(spans)), make([]int, len(spans)), make([]int, len(spans))
		for i, s := range items {
			weights[packing[i]] += anyOf(r, s.Weight.Low, s.Weight.High)
			lows[packing[i]] += s.Weight.Low
			highs[packing[i]] += s.Weight.High
		}
		if e != api.OK || len(items) > 0 && len(spans) != 1+slices.Max(packing) {
			t.Fatal(items, packing, spans, e)
		}
		for bale, s := range spans {
			if s != sp(lows[bale], highs[bale]) || !inSpan(weights[bale], s) || is && weights[bale] > limit {
				t.Fatal(items, packing, spans, bale)
			}
		}
		if _, n, e := loft.Pack(items, limit); is && (e != api.OK || n > len(spans)) {
			t.Fatal(items, limit, packing, n, e)
		}
		met[is]++
	}
	wantAll(t, met, true, false)
}

// P6.9: a greater limit, and weights that are known better, never make more bales necessary
func TestMoreRoom(t *testing.T) {
	r := source(15)
	met := map[string]int{}
	for range 1500 {
		items := anyItems(r, r.Intn(api.LoftItems+1))
		limit := anyLimit(r, items)
		_, was, e := loft.Pack(items, limit)
		if e == api.ErrNone {
			continue
		}
		better := slices.Clone(items)
		if r.Intn(2) == 0 {
			for i := range better {
				w := &better[i].Weight
				w.Low = anyOf(r, w.Low, w.High)
				w.High = anyOf(r, w.Low, w.High)
			}
		}
		_, is, e := loft.Pack(better, anyOf(r, limit, min(2*limit, api.LoftLimit)))
		if e != api.OK || is > was {
			t.Fatal(items, limit, was, better, is, e)
		}
		if is < was {
			met["fewer"]++
		}
	}
	wantAll(t, met, "fewer")
}
