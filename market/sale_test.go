package market_test

import (
	"math/rand"
	"slices"
	"testing"

	"bathyal/api"
	"bathyal/market"
)

// P8.5
func TestCheck(t *testing.T) {
	wide := mart(50, 1000, 12, sp(0, 4000), sp(0, 4000))
	for i, s := range []api.MarketStore{storeS(), store(l(0), mart(0, 0, 0, just(0))), store(l(6), mart(0, 0, 0, just(4000))), store(l(6, 6), wide, wide, wide), store(l(0, 0), wide)} {
		if e := market.Check(s); e != api.OK {
			t.Error(i, e)
		}
	}
	for i, s := range badStores() {
		if e := market.Check(s); e != api.ErrArg {
			t.Error(i, s, e)
		}
	}
}

// P8.5
func TestBrings(t *testing.T) {
	odd := store(l(6), mart(33, 0, 12, sp(0, 200)))
	dear := store(l(6), mart(50, 1000, 12, sp(0, 4000)))
	for i, x := range []struct {
		s            api.MarketStore
		sale, prices [][]int
		want         int
	}{
		{storeS(), saleA(), lowest(), 300}, {storeS(), saleA(), ll(l(120, 60), l(150, 50)), 354}, {storeS(), saleA(), ll(l(110, 50), l(100, 50)), 327}, {storeS(), noSale(), lowest(), 0}, {storeS(), saleD(), lowest(), 240}, {storeS(), saleD(), ll(l(100, 40), l(150, 50)), 420},
		// the rest of 41 times 90 is dropped for each bale
		{storeS(), ll(l(0, 1), l(0, 0)), ll(l(100, 41), l(90, 50)), 26}, {storeS(), ll(l(0, 2), l(0, 0)), ll(l(100, 41), l(90, 50)), 52}, {odd, ll(l(3)), ll(l(1)), 0}, {odd, ll(l(3)), ll(l(2)), 3}, {odd, ll(l(6)), ll(l(199)), 798}, {odd, ll(l(6)), ll(l(0)), 0},
		// a freight that is greater than the price
		{dear, ll(l(1)), ll(l(1999)), -1}, {dear, ll(l(1)), ll(l(2001)), 0}, {dear, ll(l(6)), ll(l(0)), -6000}, {dear, ll(l(6)), ll(l(4000)), 6000},
	} {
		if n, e := market.Brings(x.s, x.sale, x.prices); e != api.OK || n != x.want {
			t.Error(i, n, e)
		}
	}
}

// P8.5
func TestSure(t *testing.T) {
	for i, x := range []struct {
		s    api.MarketStore
		sale [][]int
		want api.Span
	}{
		{storeS(), saleA(), sp(300, 354)}, {storeS(), saleC(), sp(220, 256)}, {storeS(), saleD(), sp(240, 420)}, {storeS(), noSale(), sp(0, 0)}, {storeS(), ll(l(1, 2), l(2, 0)), sp(272, 446)}, {storeS(), ll(l(0, 0), l(0, 1)), just(30)},
		{store(l(6), mart(50, 1000, 12, sp(0, 4000))), ll(l(6)), sp(-6000, 6000)}, {store(l(2), mart(50, 0, 12, sp(2, 3))), ll(l(2)), just(2)}, {store(l(2), mart(50, 7, 12, sp(3, 4))), ll(l(2)), sp(-12, -10)},
	} {
		if s, e := market.Sure(x.s, x.sale); e != api.OK || s != x.want {
			t.Error(i, s, e)
		}
	}
}

// P8.5
func TestBetters(t *testing.T) {
	// one grade, and two marts
	two := func(a, b api.Span) api.MarketStore { return store(l(2), mart(0, 0, 12, a), mart(0, 0, 12, b)) }
	odd := store(l(2), mart(50, 0, 12, sp(2, 3)), mart(0, 0, 12, just(1)))
	for i, x := range []struct {
		s    api.MarketStore
		a, b [][]int
		want bool
	}{
		{storeS(), saleA(), saleC(), true}, {storeS(), saleC(), saleA(), false}, {storeS(), saleA(), saleD(), false}, {storeS(), saleD(), saleA(), false}, {storeS(), saleA(), saleA(), false}, {storeS(), noSale(), noSale(), false}, {storeS(), saleA(), noSale(), true}, {storeS(), noSale(), saleA(), false}, {storeS(), saleC(), noSale(), true},
		// at least as much in all truths, and more in some; or never more
		{two(sp(10, 20), just(10)), ll(l(1), l(0)), ll(l(0), l(1)), true}, {two(sp(10, 20), just(10)), ll(l(0), l(1)), ll(l(1), l(0)), false}, {two(sp(10, 20), sp(5, 10)), ll(l(1), l(0)), ll(l(0), l(1)), true}, {two(sp(10, 20), sp(5, 11)), ll(l(1), l(0)), ll(l(0), l(1)), false}, {two(just(10), just(10)), ll(l(1), l(0)), ll(l(0), l(1)), false}, {two(just(10), just(10)), ll(l(0), l(1)), ll(l(1), l(0)), false}, {two(just(11), just(10)), ll(l(1), l(0)), ll(l(0), l(1)), true}, {two(sp(9, 20), just(10)), ll(l(1), l(0)), ll(l(0), l(1)), false},
		// both bring the more, the more the same price is; what one brings that the other does not is what counts
		{two(sp(0, 20), just(0)), ll(l(2), l(0)), ll(l(1), l(0)), true}, {two(sp(0, 20), just(0)), ll(l(1), l(0)), ll(l(2), l(0)), false}, {two(sp(0, 20), just(0)), ll(l(1), l(1)), ll(l(1), l(0)), false}, {two(sp(0, 20), sp(0, 1)), ll(l(1), l(1)), ll(l(1), l(0)), true}, {two(sp(10, 20), just(15)), ll(l(1), l(1)), ll(l(0), l(1)), true},
		// a price that is not known, of which a bale brings the same
		{odd, ll(l(1), l(0)), ll(l(0), l(1)), false}, {odd, ll(l(0), l(1)), ll(l(1), l(0)), false}, {odd, ll(l(1), l(1)), ll(l(0), l(1)), true},
		// a loss that is not made
		{store(l(2), mart(0, 10, 12, sp(5, 9))), ll(l(0)), ll(l(1)), true}, {store(l(2), mart(0, 10, 12, sp(5, 10))), ll(l(1)), ll(l(2)), true}, {store(l(2), mart(0, 10, 12, sp(5, 11))), ll(l(0)), ll(l(1)), false}, {store(l(2), mart(0, 10, 12, sp(10, 10))), ll(l(1)), ll(l(0)), false},
	} {
		if is, e := market.Betters(x.s, x.a, x.b); e != api.OK || is != x.want {
			t.Error(i, is, e)
		}
	}
}

// P8.5, P8.6, P8.8: a store, sales and prices that are not as defined
func TestSaleErrors(t *testing.T) {
	check := func(s api.MarketStore, sale [][]int) {
		t.Helper()
		if n, e := market.Brings(s, sale, lowest()); e != api.ErrArg || n != 0 {
			t.Error(s, sale, n, e)
		}
		if x, e := market.Sure(s, sale); e != api.ErrArg || x != sp(0, 0) {
			t.Error(s, sale, x, e)
		}
		for _, pair := range [][2][][]int{{sale, noSale()}, {noSale(), sale}, {saleA(), sale}, {sale, sale}} {
			if is, e := market.Betters(s, pair[0], pair[1]); e != api.ErrArg || is {
				t.Error(s, pair, is, e)
			}
		}
		if text, e := market.Print(s, sale); e != api.ErrArg || text != "" {
			t.Error(s, sale, text, e)
		}
	}
	for _, s := range badStores() {
		check(s, noSale())
		check(s, nil)
		if p, x, e := market.Sell(s); e != api.ErrArg || len(p) != 0 || x != sp(0, 0) {
			t.Error(s, p, x, e)
		}
	}
	for _, sale := range badSales() {
		check(storeS(), sale)
	}
	bad := [][][]int{nil, {}, ll(l(100, 40)), ll(nil, nil), ll(l(100, 40), l(90)), ll(l(100), l(90, 50)), ll(l(100, 40), l(90, 50, 50)), ll(l(100, 40), l(90, 50), l(90, 50))}
	for i, s := range spans(sp(100, 120), sp(40, 60), sp(90, 150), just(50)) {
		for _, n := range badNumbers(s.Low, s.High) {
			prices := flat(lowest())
			prices[i] = n
			bad = append(bad, rows(prices, 2))
		}
	}
	for _, prices := range bad {
		for _, sale := range [][][]int{saleA(), noSale()} {
			if n, e := market.Brings(storeS(), sale, prices); e != api.ErrArg || n != 0 {
				t.Error(sale, prices, n, e)
			}
		}
	}
}

// brought returns what a sale brings with prices, by the definition: bale by bale.
func brought(s api.MarketStore, sale, prices []int) int {
	sum := 0
	for i, n := range sale {
		m := s.Marts[i/len(s.Stock)]
		for range n {
			sum += prices[i]*(100-m.Rate)/100 - m.Freight
		}
	}
	return sum
}

// pricesOf returns the spans of the prices of a store, mart by mart.
func pricesOf(s api.MarketStore) []api.Span {
	var all []api.Span
	for _, m := range s.Marts {
		all = append(all, m.Prices...)
	}
	return all
}

// isSale reports whether a list is a sale, by the definition.
func isSale(s api.MarketStore, sale []int) bool {
	left := slices.Clone(s.Stock)
	for i, row := range rows(sale, len(s.Stock)) {
		if total(row) > s.Marts[i].Takes {
			return false
		}
		for grade, n := range row {
			left[grade] -= n
		}
	}
	return slices.Min(left) >= 0
}

// eachSale calls a function with all sales of a store, in lexicographic order.
func eachSale(s api.MarketStore, do func(sale []int)) {
	var each []api.Span
	for _, m := range s.Marts {
		for _, n := range s.Stock {
			each = append(each, sp(0, min(n, m.Takes)))
		}
	}
	lists(each, func(sale []int) {
		if isSale(s, sale) {
			do(sale)
		}
	})
}

// narrow returns a store with the same, of which each price has few values.
func narrow(r *rand.Rand, s api.MarketStore) api.MarketStore {
	for _, m := range s.Marts {
		for i := range m.Prices {
			m.Prices[i].High = min(m.Prices[i].High, m.Prices[i].Low+r.Intn(3))
		}
	}
	return s
}

// P8.5: with all prices of all truths, a sale brings what it does by the definition; both ends are reached; and one betters another one just if it brings as much with all of them, and more with some
func TestSalesOfAny(t *testing.T) {
	r := source(11)
	met := map[bool]int{}
	for range 5000 {
		s := narrow(r, anyStore(r, api.MarketBales))
		a, b := anySale(r, s), anySale(r, s)
		if r.Intn(2) == 0 {
			b = rows(slices.Clone(flat(a)), len(s.Stock))
			i, k := r.Intn(len(b)), r.Intn(len(s.Stock))
			b[i][k] = max(0, b[i][k]-1)
		}
		least, greatest, more, less := most, -most, false, false
		lists(pricesOf(s), func(prices []int) {
			x, y := brought(s, flat(a), prices), brought(s, flat(b), prices)
			least, greatest, more, less = min(least, x), max(greatest, x), more || x > y, less || x < y
			if n, e := market.Brings(s, a, rows(prices, len(s.Stock))); e != api.OK || n != x {
				t.Fatal(s, a, prices, n, e, x)
			}
		})
		if x, e := market.Sure(s, a); e != api.OK || x != sp(least, greatest) {
			t.Fatal(s, a, x, e, least, greatest)
		}
		is, e := market.Betters(s, a, b)
		if e != api.OK || is != (more && !less) {
			t.Fatal(s, a, b, is, e, more, less)
		}
		met[is]++
	}
	wantAll(t, met, true, false)
}

// P8.5: of lists of any numbers, those are sales that are as defined
func TestWhatIsASale(t *testing.T) {
	r := source(12)
	met := map[bool]int{}
	for range 4000 {
		s := anyStore(r, api.MarketBales)
		var sale []int
		for range len(s.Marts) * len(s.Stock) {
			sale = append(sale, anyOf(r, 0, r.Intn(5)))
		}
		want := isSale(s, sale)
		_, e := market.Sure(s, rows(sale, len(s.Stock)))
		if want != (e == api.OK) {
			t.Fatal(s, sale, e)
		}
		met[want]++
	}
	wantAll(t, met, true, false)
}

// P8.6
func TestSell(t *testing.T) {
	one := func(stock int, p ...api.Span) api.MarketStore {
		s := store(l(stock))
		for _, x := range p {
			s.Marts = append(s.Marts, mart(0, 0, 12, x))
		}
		return s
	}
	for i, x := range []struct {
		s    api.MarketStore
		want [][]int
		both api.Span
	}{
		{storeS(), saleA(), sp(300, 354)},
		// nothing is sold for less than nothing, also if it could bring something
		{store(l(1), mart(0, 10, 12, just(5))), ll(l(0)), just(0)}, {store(l(6), mart(0, 10, 12, sp(9, 4000))), ll(l(0)), just(0)}, {store(l(6), mart(0, 10, 12, sp(11, 12))), ll(l(6)), sp(6, 12)},
		// as much surely: more if it can be more, and else what is first
		{store(l(6), mart(0, 10, 12, sp(10, 12))), ll(l(6)), sp(0, 12)}, {store(l(6), mart(0, 10, 12, just(10))), ll(l(0)), just(0)}, {one(6, just(0)), ll(l(0)), just(0)}, {one(6, sp(0, 1)), ll(l(6)), sp(0, 6)},
		{one(1, just(10), sp(10, 20)), ll(l(0), l(1)), sp(10, 20)}, {one(1, sp(10, 20), just(10)), ll(l(1), l(0)), sp(10, 20)}, {one(1, just(10), just(10)), ll(l(0), l(1)), just(10)}, {one(2, just(10), just(10), just(10)), ll(l(0), l(0), l(2)), just(20)}, {one(1, just(10), sp(9, 4000)), ll(l(1), l(0)), just(10)}, {one(1, sp(10, 19), sp(10, 20), sp(10, 20)), ll(l(0), l(0), l(1)), sp(10, 20)},
		// what is there, and what is taken
		{store(l(6), mart(0, 0, 2, just(10))), ll(l(2)), just(20)}, {one(6, just(10)), ll(l(6)), just(60)}, {one(0, just(10)), ll(l(0)), just(0)}, {store(l(6), mart(0, 0, 0, just(10))), ll(l(0)), just(0)}, {store(l(6), mart(0, 0, 2, just(10)), mart(0, 0, 3, just(9))), ll(l(2), l(3)), just(47)}, {store(l(6), mart(0, 0, 4, just(10)), mart(0, 0, 4, just(9))), ll(l(4), l(2)), just(58)}, {store(l(6, 6), mart(0, 0, 12, just(1), just(2))), ll(l(6, 6)), just(18)}, {store(l(6, 6), mart(0, 0, 11, just(1), just(2))), ll(l(5, 6)), just(17)}, {store(l(6, 6), mart(0, 0, 11, just(1), just(1))), ll(l(5, 6)), just(11)},
		// the mart that takes few takes what brings more there than elsewhere
		{store(l(2, 2), mart(0, 0, 2, just(100), just(90)), mart(0, 0, 12, just(95), just(50))), ll(l(0, 2), l(2, 0)), just(370)}, {store(l(2, 2), mart(0, 0, 3, just(100), just(90)), mart(0, 0, 12, just(95), just(50))), ll(l(1, 2), l(1, 0)), just(375)},
		{store(l(6, 6), mart(0, 0, 12, just(4000), just(4000)), mart(0, 0, 12, just(4000), just(4000)), mart(0, 0, 12, just(4000), just(4000))), ll(l(0, 0), l(0, 0), l(6, 6)), just(48000)},
	} {
		if p, s, e := market.Sell(x.s); e != api.OK || s != x.both || !equal(p, x.want) {
			t.Error(i, p, s, e)
		}
	}
}

// ends returns the least and the most that a sale brings, by the definition.
func ends(s api.MarketStore, sale []int) api.Span {
	var lows, highs []int
	for _, x := range pricesOf(s) {
		lows, highs = append(lows, x.Low), append(highs, x.High)
	}
	return sp(brought(s, sale, lows), brought(s, sale, highs))
}

// P8.6: the sale is the first one of all of which the least is the greatest, and then the most
func TestSellOfAny(t *testing.T) {
	r := source(13)
	met := map[string]int{}
	for i := range 2000 {
		bales := 3
		if i%50 == 0 {
			bales = api.MarketBales
		}
		s := anyStore(r, bales)
		if i%3 == 0 {
			s = narrow(r, s)
		}
		var want []int
		var both api.Span
		same := 0
		eachSale(s, func(sale []int) {
			x := ends(s, sale)
			switch {
			case want == nil, x.Low > both.Low, x.Low == both.Low && x.High > both.High:
				want, both, same = slices.Clone(sale), x, 0
			case x == both:
				same++
			}
		})
		if p, x, e := market.Sell(s); e != api.OK || x != both || !equal(flat(p), want) || len(p) != len(s.Marts) {
			t.Fatal(s, p, x, e, want, both)
		}
		if same > 0 {
			met["several"]++
		}
		if total(want) > 0 && total(want) < total(s.Stock) {
			met["some are left"]++
		}
	}
	wantAll(t, met, "several", "some are left")
}

// P8.6, P0.8: no sale that somebody proposes betters the one that is returned, nor surely brings more
func TestNothingBetters(t *testing.T) {
	r := source(14)
	for range 1500 {
		s := anyStore(r, api.MarketBales)
		if r.Intn(2) == 0 {
			s = narrow(r, s)
		}
		best, both, e := market.Sell(s)
		if x, f := market.Sure(s, best); e != api.OK || f != api.OK || x != both {
			t.Fatal(s, best, both, e, x, f)
		}
		for range 100 {
			sale := anySale(r, s)
			is, e := market.Betters(s, sale, best)
			if x, f := market.Sure(s, sale); e != api.OK || is || f != api.OK || x.Low > both.Low {
				t.Fatal(s, best, both, sale, is, e, x, f)
			}
		}
	}
}

// better returns a store with some prices that are known better, lesser rates and freights, and marts that take more.
func better(r *rand.Rand, s api.MarketStore) api.MarketStore {
	s = copied(s)
	for i := range s.Marts {
		m := &s.Marts[i]
		switch r.Intn(4) {
		case 0:
			for k := range m.Prices {
				m.Prices[k] = inside(r, m.Prices[k])
			}
		case 1:
			m.Rate = anyOf(r, 0, m.Rate)
		case 2:
			m.Freight = anyOf(r, 0, m.Freight)
		default:
			m.Takes = anyOf(r, m.Takes, api.MarketTakes)
		}
	}
	return s
}

// P8.9: prices that are known better, lesser rates and freights, and marts that take more, never make the best sale surely bring less
func TestBetterMarts(t *testing.T) {
	r := source(15)
	met := map[string]int{}
	for range 5000 {
		s := anyStore(r, 4)
		x := better(r, s)
		_, was, e := market.Sell(s)
		_, is, f := market.Sell(x)
		if e != api.OK || f != api.OK || is.Low < was.Low {
			t.Fatal(s, x, was, is, e, f)
		}
		if is.Low > was.Low {
			met["more"]++
		}
	}
	wantAll(t, met, "more")
}
