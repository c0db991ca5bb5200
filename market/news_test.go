package market_test

import (
	"slices"
	"testing"

	"bathyal/api"
	"bathyal/market"
)

// P8.1
func TestPrice(t *testing.T) {
	for i, x := range []struct {
		n    api.MarketNews
		day  int
		want api.Span
		e    api.Errno
	}{
		{newsN(), 15, sp(95, 125), api.OK}, {newsN(), 20, just(120), api.OK}, {newsN(), 10, just(100), api.OK}, {newsN(), 30, sp(70, 170), api.OK}, {newsN(), 0, sp(50, 150), api.OK}, {newsN(), lastDay, sp(0, 320), api.OK}, {newsN(), 12, sp(90, 110), api.OK}, {newsN(), 13, sp(85, 115), api.OK}, {newsN(), 14, sp(90, 120), api.OK}, {newsN(), 44, sp(0, 240), api.OK}, {newsN(), 43, sp(5, 235), api.OK},
		// no price is less than 0, and none is too great
		{news(50, post(0, 0)), lastDay, sp(0, 3000), api.OK}, {news(50, post(lastDay, 1000)), 0, sp(0, 4000), api.OK}, {news(7, post(20, 6)), 19, sp(0, 13), api.OK}, {news(7, post(20, 7)), 19, sp(0, 14), api.OK}, {news(7, post(20, 8)), 21, sp(1, 15), api.OK},
		// no drift
		{news(0, post(30, 7)), 0, just(7), api.OK}, {news(0, post(30, 7)), lastDay, just(7), api.OK}, {news(0, post(0, 7), post(lastDay, 7)), 30, just(7), api.OK}, {news(0, post(0, 0)), 30, just(0), api.OK},
		// posts that leave one price alone between them, posts in any order, and posts that say the same
		{news(5, post(10, 100), post(12, 110)), 11, just(105), api.OK}, {news(5, post(12, 110), post(10, 100)), 11, just(105), api.OK}, {news(5, post(10, 100), post(12, 90)), 11, just(95), api.OK}, {news(5, post(12, 109), post(10, 100)), 11, sp(104, 105), api.OK}, {news(5, post(10, 100), post(10, 100)), 11, sp(95, 105), api.OK}, {news(5, slices.Repeat([]api.MarketPost{post(10, 100)}, 5)...), 9, sp(95, 105), api.OK}, {news(5, post(0, 100), post(40, 0), post(60, 100)), 20, sp(0, 100), api.OK}, {news(1, post(0, 5), post(10, 5)), 5, sp(0, 10), api.OK}, {news(1, post(0, 4), post(10, 4)), 5, sp(0, 9), api.OK},
		// news that contradicts itself, also where some price seems to be left
		{news(5, post(10, 100), post(10, 101)), 10, sp(0, 0), api.ErrRule}, {news(50, post(10, 100), post(10, 101)), 30, sp(0, 0), api.ErrRule}, {news(5, post(10, 100), post(12, 111)), 50, sp(0, 0), api.ErrRule}, {news(5, post(10, 100), post(12, 89)), 11, sp(0, 0), api.ErrRule}, {news(0, post(10, 100), post(60, 101)), 0, sp(0, 0), api.ErrRule}, {news(5, post(10, 100), post(20, 120), post(22, 131)), 10, sp(0, 0), api.ErrRule}, {news(5, post(22, 131), post(10, 100), post(20, 120)), 60, sp(0, 0), api.ErrRule}, {news(50, post(0, 0), post(20, 1000)), 20, just(1000), api.OK}, {news(50, post(0, 0), post(19, 1000)), 60, sp(0, 0), api.ErrRule},
	} {
		if s, e := market.Price(x.n, x.day); e != x.e || s != x.want {
			t.Error(i, s, e)
		}
	}
}

// P8.1
func TestMoves(t *testing.T) {
	with := func(change func(p []int)) []int {
		p := pricesN()
		change(p)
		return p
	}
	flat := slices.Repeat(l(0), lastDay+1)
	for i, x := range []struct {
		n      api.MarketNews
		prices []int
		want   bool
		e      api.Errno
	}{
		{newsN(), pricesN(), true, api.OK}, {newsN(), with(func(p []int) { p[30] = 125 }), true, api.OK}, {newsN(), with(func(p []int) { p[30] = 126 }), false, api.OK}, {newsN(), with(func(p []int) { p[30] = 115 }), true, api.OK}, {newsN(), with(func(p []int) { p[30] = 114 }), false, api.OK}, {newsN(), with(func(p []int) { p[20] = 121 }), false, api.OK}, {newsN(), with(func(p []int) { p[10] = 99 }), false, api.OK}, {newsN(), with(func(p []int) { p[0] = 105 }), true, api.OK}, {newsN(), with(func(p []int) { p[0] = 106 }), false, api.OK}, {newsN(), with(func(p []int) { p[0] = 94 }), false, api.OK}, {newsN(), with(func(p []int) { p[lastDay] = 125 }), true, api.OK}, {newsN(), with(func(p []int) { p[lastDay] = 126 }), false, api.OK}, {newsN(), with(func(p []int) { p[lastDay] = 114 }), false, api.OK}, {newsN(), with(func(p []int) { p[40] = most }), false, api.OK}, {newsN(), with(func(p []int) { p[40] = 0 }), false, api.OK}, {newsN(), slices.Repeat(l(most), lastDay+1), false, api.OK},
		{news(0, post(0, 0)), flat, true, api.OK}, {news(0, post(0, 0), post(lastDay, 0)), flat, true, api.OK}, {news(0, post(0, 0), post(lastDay, 1)), flat, false, api.OK}, {news(0, post(30, 1)), flat, false, api.OK},
		// of news that contradicts itself, no prices are true
		{news(5, post(10, 100), post(10, 101)), pricesN(), false, api.OK}, {news(5, post(10, 100), post(12, 111)), pricesN(), false, api.OK},
		{newsN(), nil, false, api.ErrArg}, {newsN(), pricesN()[:lastDay], false, api.ErrArg}, {newsN(), append(pricesN(), 120), false, api.ErrArg}, {newsN(), with(func(p []int) { p[0] = -1 }), false, api.ErrArg}, {newsN(), with(func(p []int) { p[lastDay] = -1 }), false, api.ErrArg}, {newsN(), with(func(p []int) { p[30] = least }), false, api.ErrArg},
	} {
		if is, e := market.Moves(x.n, x.prices); e != x.e || is != x.want {
			t.Error(i, is, e)
		}
	}
}

// P8.1: news, a day and prices that are not as defined
func TestNewsErrors(t *testing.T) {
	for _, n := range badNews() {
		if s, e := market.Price(n, 10); e != api.ErrArg || s != sp(0, 0) {
			t.Error(n, s, e)
		}
		if is, e := market.Moves(n, pricesN()); e != api.ErrArg || is {
			t.Error(n, is, e)
		}
	}
	for _, day := range badNumbers(0, lastDay) {
		for _, n := range []api.MarketNews{newsN(), news(5, post(10, 100), post(10, 101))} {
			if s, e := market.Price(n, day); e != api.ErrArg || s != sp(0, 0) {
				t.Error(n, day, s, e)
			}
		}
	}
}

// truePrices reports whether prices are true, by the definition.
func truePrices(n api.MarketNews, prices []int) bool {
	for day := 1; day < len(prices); day++ {
		if prices[day] > prices[day-1]+n.Drift || prices[day] < prices[day-1]-n.Drift {
			return false
		}
	}
	return !slices.ContainsFunc(n.Posts, func(p api.MarketPost) bool { return prices[p.Day] != p.Price })
}

// followed returns which prices each day can have, if the days before it are known, or the days after it.
func followed(n api.MarketNews, backwards bool) [lastDay + 1][]bool {
	high := n.Drift * (lastDay + 1)
	for _, p := range n.Posts {
		high = max(high, p.Price+n.Drift*lastDay)
	}
	var can [lastDay + 1][]bool
	before := slices.Repeat([]bool{true}, high+1)
	for i := range can {
		day := i
		if backwards {
			day = lastDay - i
		}
		now := make([]bool, high+1)
		for price := range now {
			isPosted := !slices.ContainsFunc(n.Posts, func(p api.MarketPost) bool { return p.Day == day && p.Price != price })
			now[price] = isPosted && slices.Contains(before[max(0, price-n.Drift):min(high, price+n.Drift)+1], true)
		}
		can[day], before = now, now
	}
	return can
}

// P8.1: the bounds are those of all prices of a day that some truth has, found day by day
func TestPriceOfAny(t *testing.T) {
	r := source(1)
	met := map[api.Errno]int{}
	for range 150 {
		n, _ := anyNews(r)
		forth, back := followed(n, false), followed(n, true)
		for day := range lastDay + 1 {
			var all []int
			for price := range forth[day] {
				if forth[day][price] && back[day][price] {
					all = append(all, price)
				}
			}
			s, e := market.Price(n, day)
			met[e]++
			if len(all) == 0 && (e != api.ErrRule || s != sp(0, 0)) || len(all) > 0 && (e != api.OK || s != sp(all[0], all[len(all)-1])) {
				t.Fatal(n, day, s, e, all)
			}
		}
	}
	wantAll(t, met, api.OK, api.ErrRule)
}

// P8.1: whatever is true, prices lie within the bounds, and all the least ones of them are true together, and so are all the greatest ones
func TestPricesWithinBounds(t *testing.T) {
	r := source(2)
	met := map[bool]int{}
	for range 3000 {
		n, prices := anyNews(r)
		is, e := market.Moves(n, prices)
		if e != api.OK || is != truePrices(n, prices) {
			t.Fatal(n, prices, is, e)
		}
		met[is]++
		var lows, highs []int
		for day, price := range prices {
			s, e := market.Price(n, day)
			if is && (e != api.OK || !inSpan(price, s)) {
				t.Fatal(n, day, price, s, e)
			}
			lows, highs = append(lows, s.Low), append(highs, s.High)
		}
		if _, e := market.Price(n, 0); e == api.ErrRule {
			continue
		}
		for _, ends := range ll(lows, highs) {
			if is, e := market.Moves(n, ends); e != api.OK || !is {
				t.Fatal(n, ends, is, e)
			}
		}
	}
	wantAll(t, met, true, false)
}

// P8.1: prices are compared by the definition, whatever is changed in them
func TestMovesOfAny(t *testing.T) {
	r := source(3)
	met := map[bool]int{}
	for range 6000 {
		n, prices := anyNews(r)
		day := anyOf(r, 0, lastDay)
		prices[day] = max(0, prices[day]+anyOf(r, -2, 2))
		is, e := market.Moves(n, prices)
		if e != api.OK || is != truePrices(n, prices) {
			t.Fatal(n, prices, is, e)
		}
		met[is]++
	}
	wantAll(t, met, true, false)
}

// P8.9: a post more, and a lesser drift, never make bounds wider
func TestMoreNews(t *testing.T) {
	r := source(4)
	met := map[string]int{}
	for range 4000 {
		n, _ := anyNews(r)
		day := anyOf(r, 0, lastDay)
		was, e := market.Price(n, day)
		more := news(n.Drift, slices.Clone(n.Posts)...)
		if r.Intn(2) == 0 && len(n.Posts) < api.MarketPosts {
			at := anyOf(r, 0, lastDay)
			some, _ := market.Price(n, at)
			more.Posts = append(more.Posts, post(at, min(anyOf(r, some.Low, some.High), api.MarketPrice)))
		} else {
			more.Drift = anyOf(r, max(0, n.Drift-3), n.Drift)
		}
		is, f := market.Price(more, day)
		switch {
		case f == api.ErrRule:
			met["nothing true"]++
		case e != api.OK || f != api.OK || is.Low < was.Low || is.High > was.High:
			t.Fatal(n, more, day, was, is, e, f)
		case is != was:
			met["narrower"]++
		}
	}
	wantAll(t, met, "nothing true", "narrower")
}
