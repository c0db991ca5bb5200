package market_test

import (
	"slices"
	"testing"

	"bathyal/api"
	"bathyal/market"
)

// P8.2
func TestMind(t *testing.T) {
	for i, x := range []struct {
		list []api.MarketBid
		want api.Span
		e    api.Errno
	}{
		{bidsB(), sp(60, 76), api.OK}, {bids(sealed(60, 20), rising(50, 80)), sp(60, 76), api.OK}, {bids(sealed(60, 20)), sp(60, 76), api.OK}, {bids(rising(50, 80)), sp(50, 79), api.OK},
		// rising bids
		{bids(rising(50, -1)), sp(50, 4000), api.OK}, {bids(rising(50, 51)), just(50), api.OK}, {bids(rising(0, 1)), just(0), api.OK}, {bids(rising(0, -1)), sp(0, 4000), api.OK}, {bids(rising(4000, -1)), just(4000), api.OK}, {bids(rising(3999, 4000)), just(3999), api.OK}, {bids(rising(0, 4000)), sp(0, 3999), api.OK}, {bids(rising(50, -1), rising(60, 90), rising(20, 70)), sp(60, 69), api.OK},
		// sealed bids, of which the least is rounded down
		{bids(sealed(0, 0)), just(0), api.OK}, {bids(sealed(0, 90)), sp(0, 9), api.OK}, {bids(sealed(0, 1)), sp(0, 1), api.OK}, {bids(sealed(60, 0)), just(60), api.OK}, {bids(sealed(40, 10)), sp(40, 45), api.OK}, {bids(sealed(1, 50)), sp(1, 3), api.OK}, {bids(sealed(9, 90)), sp(9, 99), api.OK}, {bids(sealed(7, 30)), sp(7, 11), api.OK}, {bids(sealed(4000, 0)), just(4000), api.OK}, {bids(sealed(4000, 50)), just(4000), api.OK}, {bids(sealed(400, 90)), sp(400, 4000), api.OK}, {bids(sealed(399, 90)), sp(399, 3999), api.OK}, {bids(sealed(398, 90)), sp(398, 3989), api.OK},
		{slices.Repeat(bids(sealed(60, 20)), 5), sp(60, 76), api.OK}, {bids(sealed(60, 20), sealed(70, 20), sealed(65, 30)), sp(70, 76), api.OK}, {bids(sealed(60, 20), sealed(76, 20)), just(76), api.OK},
		// bids that contradict each other
		{bids(sealed(60, 20), sealed(77, 20)), sp(0, 0), api.ErrRule}, {bids(sealed(40, 10), rising(50, -1)), sp(0, 0), api.ErrRule}, {bids(rising(50, 60), rising(60, -1)), sp(0, 0), api.ErrRule}, {bids(rising(50, 60), rising(59, -1)), just(59), api.OK}, {bids(rising(60, -1), rising(50, -1), rising(10, 20)), sp(0, 0), api.ErrRule}, {bids(sealed(1, 0), sealed(0, 0)), sp(0, 0), api.ErrRule},
	} {
		if s, e := market.Mind(x.list); e != x.e || s != x.want {
			t.Error(i, s, e)
		}
	}
}

// P8.2
func TestAgrees(t *testing.T) {
	apart := bids(sealed(40, 10), rising(50, -1))
	for i, x := range []struct {
		list  []api.MarketBid
		worth int
		want  bool
		e     api.Errno
	}{
		{bidsB(), 76, true, api.OK}, {bidsB(), 77, false, api.OK}, {bidsB(), 60, true, api.OK}, {bidsB(), 59, false, api.OK}, {bidsB(), 80, false, api.OK}, {bidsB(), 0, false, api.OK}, {bidsB(), 4000, false, api.OK}, {bids(rising(50, -1)), 4000, true, api.OK}, {bids(rising(50, 80)), 79, true, api.OK}, {bids(rising(50, 80)), 80, false, api.OK}, {bids(rising(50, 80)), 50, true, api.OK}, {bids(rising(50, 80)), 49, false, api.OK}, {bids(sealed(0, 0)), 0, true, api.OK},
		// bids that contradict each other: no number agrees with all of them
		{apart, 45, false, api.OK}, {apart, 50, false, api.OK}, {apart, 47, false, api.OK},
		{bidsB(), -1, false, api.ErrArg}, {bidsB(), 4001, false, api.ErrArg}, {bidsB(), least, false, api.ErrArg}, {bidsB(), most, false, api.ErrArg}, {apart, 4001, false, api.ErrArg},
	} {
		if is, e := market.Agrees(x.list, x.worth); e != x.e || is != x.want {
			t.Error(i, is, e)
		}
	}
}

// P8.2: bids that are not as defined
func TestMindErrors(t *testing.T) {
	for _, list := range badBids() {
		if s, e := market.Mind(list); e != api.ErrArg || s != sp(0, 0) {
			t.Error(list, s, e)
		}
		if is, e := market.Agrees(list, 60); e != api.ErrArg || is {
			t.Error(list, is, e)
		}
	}
}

// agrees reports whether a number agrees with a bid, by the definition.
func agrees(b api.MarketBid, worth int) bool {
	if b.Rising {
		return worth >= b.Price && (b.More == -1 || worth < b.More)
	}
	return b.Price <= worth && b.Price >= worth*(100-b.More)/100
}

// P8.2: the numbers between the bounds are just those that agree with all bids, by the definition
func TestMindOfAny(t *testing.T) {
	r := source(5)
	met := map[api.Errno]int{}
	for range 1200 {
		list := anyBids(r)
		s, e := market.Mind(list)
		found := 0
		for worth := range api.MarketWorth + 1 {
			want := !slices.ContainsFunc(list, func(b api.MarketBid) bool { return !agrees(b, worth) })
			if want {
				found++
			}
			if is, f := market.Agrees(list, worth); f != api.OK || is != want || want && (e != api.OK || !inSpan(worth, s)) {
				t.Fatal(list, worth, is, f, want, s, e)
			}
		}
		if found == 0 && (e != api.ErrRule || s != sp(0, 0)) || found > 0 && found != s.High-s.Low+1 {
			t.Fatal(list, s, e, found)
		}
		met[e]++
	}
	wantAll(t, met, api.OK, api.ErrRule)
}

// P8.2: each price with each shade
func TestMindOfSealed(t *testing.T) {
	for shade := range api.MarketShade + 1 {
		high := 0
		for price := range api.MarketWorth + 1 {
			for high < api.MarketWorth && price >= (high+1)*(100-shade)/100 {
				high++
			}
			if s, e := market.Mind(bids(sealed(price, shade))); e != api.OK || s != sp(price, high) {
				t.Fatal(price, shade, s, e, high)
			}
		}
	}
}

// P8.9: a bid more never makes bounds wider
func TestMoreBids(t *testing.T) {
	r := source(6)
	met := map[string]int{}
	for range 5000 {
		list := anyBids(r)
		was, e := market.Mind(list[:len(list)-1])
		is, f := market.Mind(list)
		switch {
		case len(list) == 1:
		case f == api.ErrRule:
			met["nothing agrees"]++
		case e != api.OK || f != api.OK || is.Low < was.Low || is.High > was.High:
			t.Fatal(list, was, is, e, f)
		case is != was:
			met["narrower"]++
		}
	}
	wantAll(t, met, "nothing agrees", "narrower")
}
