package market_test

import (
	"testing"

	"bathyal/api"
	"bathyal/market"
)

// P8.3
func TestAward(t *testing.T) {
	for i, x := range []struct {
		parcels, reserve int
		rising           bool
		wishes           [][]int
		gets, pays       []int
	}{
		{3, 20, false, wishesW(), l(2, 1, 0), l(80, 40, 0)}, {3, 20, true, wishesW(), l(2, 1, 0), l(60, 30, 0)}, {3, 35, true, wishesW(), l(1, 1, 0), l(35, 35, 0)}, {3, 35, false, wishesW(), l(1, 1, 0), l(50, 40, 0)},
		{1, 0, true, wishesW(), l(1, 0, 0), l(40, 0, 0)}, {1, 0, false, wishesW(), l(1, 0, 0), l(50, 0, 0)}, {2, 0, true, wishesW(), l(1, 1, 0), l(30, 30, 0)}, {4, 0, true, wishesW(), l(2, 1, 1), l(20, 10, 10)}, {4, 0, false, wishesW(), l(2, 1, 1), l(80, 40, 30)},
		// the reserve: a price that is as great wins, and one that is less does not count
		{4, 30, true, wishesW(), l(2, 1, 1), l(60, 30, 30)}, {4, 31, true, wishesW(), l(1, 1, 0), l(31, 31, 0)}, {4, 10, true, wishesW(), l(2, 1, 1), l(20, 10, 10)}, {4, 11, true, wishesW(), l(2, 1, 1), l(22, 11, 11)}, {1, 50, true, wishesW(), l(1, 0, 0), l(50, 0, 0)}, {1, 51, true, wishesW(), l(0, 0, 0), l(0, 0, 0)}, {1, 51, false, wishesW(), l(0, 0, 0), l(0, 0, 0)}, {1, 40, true, wishesW(), l(1, 0, 0), l(40, 0, 0)}, {1, 41, true, wishesW(), l(1, 0, 0), l(41, 0, 0)}, {4, 4000, true, ll(l(4000), l(3999)), l(1, 0), l(4000, 0)},
		// prices that are equal
		{1, 0, true, ll(l(50), l(50)), l(1, 0), l(50, 0)}, {1, 0, false, ll(nil, l(50), l(50)), l(0, 1, 0), l(0, 50, 0)}, {2, 0, true, ll(l(50), l(50, 50), l(50)), l(1, 1, 0), l(50, 50, 0)}, {3, 0, false, ll(l(50), l(50, 50), l(50)), l(1, 2, 0), l(50, 100, 0)}, {2, 0, true, ll(l(40, 30), l(50, 30)), l(1, 1), l(30, 30)}, {3, 0, true, ll(l(40, 30), l(50, 30)), l(2, 1), l(60, 30)}, {3, 0, true, ll(l(20), l(50, 30), l(30, 30), l(30)), l(0, 2, 1, 0), l(0, 60, 30, 0)},
		// the price that does not win can be of a buyer who wins others
		{1, 0, true, ll(l(50, 45), l(40)), l(1, 0), l(45, 0)}, {2, 0, true, ll(l(50, 40, 30)), l(2), l(60)}, {2, 10, true, ll(l(10, 10, 10)), l(2), l(20)}, {4, 0, true, ll(l(9, 9, 9, 9), l(8, 8, 8, 8), l(7, 7, 7, 7), l(6, 6, 6, 6)), l(4, 0, 0, 0), l(32, 0, 0, 0)},
		// nobody, nothing, and more parcels than are wished
		{2, 0, true, ll(l(10)), l(1), l(0)}, {2, 3, true, ll(l(10)), l(1), l(3)}, {2, 11, true, ll(l(10)), l(0), l(0)}, {1, 0, true, ll(nil), l(0), l(0)}, {4, 0, false, ll(nil, nil, nil, nil), l(0, 0, 0, 0), l(0, 0, 0, 0)}, {2, 0, false, ll(l(0, 0, 0)), l(2), l(0)}, {4, 0, false, ll(l(4000, 4000), l(4000, 4000)), l(2, 2), l(8000, 8000)}, {4, 4000, true, ll(nil, l(4000, 4000, 4000, 4000)), l(0, 4), l(0, 16000)},
	} {
		if a, b, e := market.Award(x.parcels, x.reserve, x.rising, x.wishes); e != api.OK || !equal(a, x.gets) || !equal(b, x.pays) {
			t.Error(i, a, b, e)
		}
	}
}

// P8.3: parcels, a reserve and wishes that are not as defined
func TestAwardErrors(t *testing.T) {
	check := func(parcels, reserve int, wishes [][]int) {
		t.Helper()
		for _, rising := range []bool{true, false} {
			if a, b, e := market.Award(parcels, reserve, rising, wishes); e != api.ErrArg || len(a)+len(b) != 0 {
				t.Error(parcels, reserve, rising, wishes, a, b, e)
			}
		}
	}
	for _, n := range badNumbers(1, api.MarketParcels) {
		check(n, 20, wishesW())
	}
	for _, n := range badNumbers(0, api.MarketWorth) {
		check(3, n, wishesW())
	}
	for _, wishes := range badWishes() {
		check(3, 20, wishes)
	}
}

// awarded returns what each buyer gets and pays, by the definition: one parcel after the other goes to the greatest price that is left.
func awarded(parcels, reserve int, rising bool, wishes [][]int) (gets, pays []int) {
	gets, pays = make([]int, len(wishes)), make([]int, len(wishes))
	// next returns the buyer whose next price is the greatest one, and that price, or -1 if there is none
	next := func() (int, int) {
		buyer, price := -1, reserve-1
		for i, prices := range wishes {
			if gets[i] < len(prices) && prices[gets[i]] > price {
				buyer, price = i, prices[gets[i]]
			}
		}
		return buyer, price
	}
	for range parcels {
		if buyer, price := next(); buyer >= 0 {
			gets[buyer]++
			pays[buyer] += price
		}
	}
	if _, price := next(); rising {
		for i := range pays {
			pays[i] = gets[i] * max(price, reserve)
		}
	}
	return gets, pays
}

// P8.3
func TestAwardOfAny(t *testing.T) {
	r := source(7)
	for i := range 20000 {
		high := []int{3, 20, api.MarketWorth}[i%3]
		wishes := anyWishes(r, high)
		parcels, reserve, rising := anyOf(r, 1, api.MarketParcels), anyOf(r, 0, high), r.Intn(2) == 0
		gets, pays := awarded(parcels, reserve, rising, wishes)
		a, b, e := market.Award(parcels, reserve, rising, wishes)
		if e != api.OK || !equal(a, gets) || !equal(b, pays) {
			t.Fatal(parcels, reserve, rising, wishes, a, b, e, gets, pays)
		}
		// no price that does not win is greater than one that does
		for i, prices := range wishes {
			for k, others := range wishes {
				if a[i] > 0 && a[k] < len(others) && others[a[k]] > prices[a[i]-1] {
					t.Fatal(parcels, reserve, wishes, a)
				}
			}
		}
	}
}

// P8.3: in a rising offer, a buyer who wants one parcel alone never gains by bidding anything else than what it is worth
func TestTruthPays(t *testing.T) {
	r := source(8)
	met := map[string]int{}
	// gain returns what the buyer gains, to whom one parcel is worth something
	gain := func(parcels, reserve, buyer, worth int, wishes [][]int) int {
		a, b, e := market.Award(parcels, reserve, true, wishes)
		if e != api.OK {
			t.Fatal(parcels, reserve, wishes, e)
		}
		return min(a[buyer], 1)*worth - b[buyer]
	}
	for range 1500 {
		wishes := anyWishes(r, 12)
		buyer := r.Intn(len(wishes))
		parcels, reserve, worth := anyOf(r, 1, api.MarketParcels), anyOf(r, 0, 12), anyOf(r, 0, 12)
		wishes[buyer] = l(worth)
		truth := gain(parcels, reserve, buyer, worth, wishes)
		for price := range 15 {
			wishes[buyer] = l(price)
			other := gain(parcels, reserve, buyer, worth, wishes)
			if other > truth {
				t.Fatal(parcels, reserve, wishes, buyer, worth, truth, other)
			}
			if other < truth {
				met["less"]++
			}
			if other < 0 {
				met["a loss"]++
			}
		}
	}
	wantAll(t, met, "less", "a loss")
}

// P8.4
func TestReserve(t *testing.T) {
	for i, x := range []struct {
		parcels          int
		minds            []api.Span
		reserve, brought int
	}{
		{2, spans(sp(40, 60), sp(30, 50), sp(10, 90)), 30, 60}, {1, spans(sp(40, 60), sp(30, 50)), 40, 40}, {1, spans(just(5)), 5, 5}, {1, spans(sp(0, 9)), 0, 0}, {1, spans(just(4000)), 4000, 4000}, {2, spans(just(10), sp(10, 20)), 10, 20}, {2, spans(just(10), sp(10, 20), sp(10, 30)), 0, 20},
		// as much without a reserve, or with a lesser one
		{1, spans(just(10), just(10)), 0, 10}, {2, spans(just(20), just(10)), 10, 20}, {2, spans(just(10), just(20)), 10, 20}, {2, spans(just(21), just(10)), 21, 21}, {2, spans(just(30), just(20), just(15)), 20, 40}, {2, spans(just(31), just(15), just(15)), 31, 31}, {2, spans(just(30), just(15), just(15)), 0, 30}, {3, spans(just(30), just(15), just(10)), 10, 30}, {3, spans(just(30), just(15), just(9)), 15, 30},
		// what is worth most alone, or all together
		{4, spans(just(100), just(1), just(1), just(1)), 100, 100}, {4, spans(just(100), just(90), just(80), just(70)), 70, 280}, {3, spans(just(100), just(90), just(80), just(70)), 80, 240}, {1, spans(just(100), just(100), just(80), just(70)), 0, 100}, {3, spans(just(70), just(70), just(70), just(70)), 0, 210}, {4, spans(just(70), just(70), just(70), just(70)), 70, 280}, {4, spans(sp(0, 4000), sp(0, 4000), sp(0, 4000), sp(0, 4000)), 0, 0}, {4, spans(sp(0, 4000), sp(0, 4000), sp(1, 1), sp(0, 4000)), 1, 1}, {4, spans(just(4000), just(4000), just(4000), just(4000)), 4000, 16000}, {3, spans(just(4000), just(4000), just(4000), just(4000)), 0, 12000}, {1, spans(sp(3999, 4000)), 3999, 3999},
	} {
		if r, n, e := market.Reserve(x.parcels, x.minds); e != api.OK || r != x.reserve || n != x.brought {
			t.Error(i, r, n, e)
		}
	}
}

// P8.4: parcels and minds that are not as defined
func TestReserveErrors(t *testing.T) {
	for _, n := range badNumbers(1, api.MarketParcels) {
		if r, n, e := market.Reserve(n, spans(sp(40, 60))); e != api.ErrArg || r != 0 || n != 0 {
			t.Error(r, n, e)
		}
	}
	for _, minds := range badMinds() {
		if r, n, e := market.Reserve(2, minds); e != api.ErrArg || r != 0 || n != 0 {
			t.Error(minds, r, n, e)
		}
	}
}

// sure returns the least that all pay together with a reserve, in all truths.
func sure(parcels, reserve int, minds []api.Span) int {
	least := most
	lists(minds, func(worth []int) {
		_, pays := awarded(parcels, reserve, true, rows(worth, 1))
		least = min(least, total(pays))
	})
	return least
}

// P8.4: of all reserves, in all truths
func TestReserveOfAny(t *testing.T) {
	r := source(9)
	met := map[string]int{}
	for range 500 {
		minds, parcels := anyMinds(r, 5), anyOf(r, 1, api.MarketParcels)
		reserve, brought := 0, -1
		for n := range 8 {
			if of := sure(parcels, n, minds); of > brought {
				reserve, brought = n, of
			}
		}
		a, n, e := market.Reserve(parcels, minds)
		if e != api.OK || a != reserve || n != brought {
			t.Fatal(parcels, minds, a, n, e, reserve, brought)
		}
		if reserve == 0 && brought > 0 {
			met["none"]++
		}
		if reserve > 0 && len(minds) > parcels {
			met["some"]++
		}
	}
	wantAll(t, met, "none", "some")
}

// P8.4: whatever parcels are worth, the best reserve brings at least as much as is told; and if they are worth the least that they can be, no other one brings more, and no lesser one as much
func TestReserveIsSure(t *testing.T) {
	r := source(10)
	for range 60 {
		minds, parcels := anyMinds(r, api.MarketWorth), anyOf(r, 1, api.MarketParcels)
		best, n, e := market.Reserve(parcels, minds)
		var lows []int
		for _, s := range minds {
			lows = append(lows, s.Low)
		}
		for reserve := range api.MarketWorth + 1 {
			_, pays := awarded(parcels, reserve, true, rows(lows, 1))
			of := total(pays)
			if e != api.OK || of > n || of == n && reserve < best || reserve == best && of != n {
				t.Fatal(parcels, minds, best, n, e, reserve, of)
			}
		}
		for range 100 {
			var worth [][]int
			for _, s := range minds {
				worth = append(worth, l(anyOf(r, s.Low, s.High)))
			}
			if _, pays, e := market.Award(parcels, best, true, worth); e != api.OK || total(pays) < n {
				t.Fatal(parcels, minds, best, n, worth, pays, e)
			}
		}
	}
}
