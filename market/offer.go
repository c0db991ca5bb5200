package market

import (
	"cmp"
	"slices"

	"bathyal/api"
)

// offer is parcels that are offered.
type offer struct {
	parcels, reserve int
	rising           bool
}

// isOffer reports whether an offer is as defined.
func isOffer(o offer) bool {
	return within(o.parcels, 1, api.MarketParcels) && isWorth(o.reserve)
}

// isWish reports whether what a buyer bids for each parcel is as defined.
func isWish(prices []int) bool {
	falls := slices.IsSortedFunc(prices, func(a, b int) int { return cmp.Compare(b, a) })
	return len(prices) <= api.MarketParcels && falls && all(prices, isWorth)
}

// areWishes reports whether wishes are as defined.
func areWishes(wishes [][]int) bool {
	return within(len(wishes), 1, api.MarketBuyers) && all(wishes, isWish)
}

// wish is a price that a buyer bids for a parcel.
type wish struct{ buyer, price int }

// ranked returns the prices that are at least the reserve, in the order in which they win.
func (o offer) ranked(wishes [][]int) []wish {
	var l []wish
	for buyer, prices := range wishes {
		for _, price := range prices {
			if price >= o.reserve {
				l = append(l, wish{buyer, price})
			}
		}
	}
	slices.SortStableFunc(l, func(a, b wish) int { return cmp.Compare(b.price, a.price) })
	return l
}

// award returns how many parcels each buyer gets, and what each one pays.
func (o offer) award(wishes [][]int) (gets, pays []int) {
	l := o.ranked(wishes)
	win := min(o.parcels, len(l))
	gets, pays = make([]int, len(wishes)), make([]int, len(wishes))
	for _, w := range l[:win] {
		gets[w.buyer]++
		pays[w.buyer] += o.price(w, l[win:])
	}
	return gets, pays
}

// price returns what is paid for a parcel that a price wins, while others lose.
func (o offer) price(w wish, lost []wish) int {
	switch {
	case !o.rising:
		return w.price
	case len(lost) > 0:
		return lost[0].price
	}
	return o.reserve
}

// Award returns how many parcels each buyer gets, and what each one pays.
func Award(parcels, reserve int, rising bool, wishes [][]int) ([]int, []int, api.Errno) {
	o := offer{parcels, reserve, rising}
	if !isOffer(o) || !areWishes(wishes) {
		return nil, nil, api.ErrArg
	}
	gets, pays := o.award(wishes)
	return gets, pays, api.OK
}

// hammer is parcels that are offered rising to minds, with what was found of reserves. In no truth less is paid than in the one in which a parcel is worth the least that it can be to each buyer.
type hammer struct {
	parcels int
	least   [][]int
	found   map[int]int
}

// brings returns what the offer surely brings with a reserve.
func (h hammer) brings(reserve int) int {
	if total, is := h.found[reserve]; is {
		return total
	}
	_, pays := offer{h.parcels, reserve, true}.award(h.least)
	total := 0
	for _, n := range pays {
		total += n
	}
	h.found[reserve] = total
	return total
}

// reserves returns the reserves of which one is the best, in increasing order. Between two of them as many prices count with a greater reserve: if all of these win, more is paid with it, and if one loses, no more than without a reserve.
func (h hammer) reserves() []int {
	l := []int{0}
	for _, prices := range h.least {
		l = append(l, prices...)
	}
	slices.Sort(l)
	return l
}

// Reserve returns the best reserve, and what a rising offer surely brings with it.
func Reserve(parcels int, minds []api.Span) (int, int, api.Errno) {
	isMind := func(s api.Span) bool { return ordered(s, api.MarketWorth) }
	if !isOffer(offer{parcels: parcels}) || !within(len(minds), 1, api.MarketBuyers) || !all(minds, isMind) {
		return 0, 0, api.ErrArg
	}
	h := hammer{parcels: parcels, found: map[int]int{}}
	for _, s := range minds {
		h.least = append(h.least, []int{s.Low})
	}
	found, _ := best(slices.Values(h.reserves()), func(a, b int) bool { return h.brings(a) > h.brings(b) })
	return found, h.brings(found), api.OK
}
