package market

import "bathyal/api"

// open is the More of a rising bid of which it is not known where the buyer ended.
const open = -1

// bid is a bid of either kind.
type bid interface {
	// isOne reports whether the bid is as defined, if its price is.
	isOne() bool
	// worth returns what a parcel can be worth to the buyer.
	worth() api.Span
}

// rising is a price at which a buyer still bid, and the one at which the buyer bid no longer, or open.
type rising struct{ price, end int }

func (r rising) isOne() bool { return r.end == open || within(r.end, r.price+1, api.MarketWorth) }

func (r rising) worth() api.Span {
	if r.end == open {
		return api.Span{Low: r.price, High: api.MarketWorth}
	}
	return api.Span{Low: r.price, High: r.end - 1}
}

// sealed is a price that was bid sealed, and its shade.
type sealed struct{ price, shade int }

func (s sealed) isOne() bool { return within(s.shade, 0, api.MarketShade) }

func (s sealed) worth() api.Span {
	tooMuch := hundred * (s.price + 1) // what is worth this, less the shade, would be bid higher
	return api.Span{Low: s.price, High: (tooMuch - 1) / (hundred - s.shade)}
}

// bidOf returns the bid of a kind.
func bidOf(b api.MarketBid) bid {
	if b.Rising {
		return rising{b.Price, b.More}
	}
	return sealed{b.Price, b.More}
}

// isBid reports whether a bid is as defined.
func isBid(b api.MarketBid) bool { return isWorth(b.Price) && bidOf(b).isOne() }

// isWorth reports whether a parcel can be worth so much.
func isWorth(n int) bool { return within(n, 0, api.MarketWorth) }

// areBids reports whether bids are as defined.
func areBids(l []api.MarketBid) bool {
	return within(len(l), 1, api.MarketBids) && all(l, isBid)
}

// mind returns what a parcel can be worth to a buyer, and gives up if the bids contradict each other.
func mind(l []api.MarketBid) api.Span {
	var proved []api.Span
	for _, b := range l {
		proved = append(proved, bidOf(b).worth())
	}
	return narrowed(api.Span{Low: 0, High: api.MarketWorth}, proved...)
}

// Mind returns the least and the greatest number that a parcel can be worth to a buyer.
func Mind(l []api.MarketBid) (api.Span, api.Errno) {
	if !areBids(l) {
		return api.Span{}, api.ErrArg
	}
	var found api.Span
	e := attempt(func() { found = mind(l) })
	return found, e
}

// Agrees reports whether a number agrees with all bids.
func Agrees(l []api.MarketBid, worth int) (bool, api.Errno) {
	if !areBids(l) || !isWorth(worth) {
		return false, api.ErrArg
	}
	agrees := func(b api.MarketBid) bool {
		s := bidOf(b).worth()
		return within(worth, s.Low, s.High)
	}
	return all(l, agrees), api.OK
}
