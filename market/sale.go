package market

import (
	"iter"

	"bathyal/api"
)

// The ends of what something brings.
const (
	low = iota
	high
	ends
)

// net returns what a bale brings in a mart, at a price.
func (s sold) net(mart, price int) int {
	m := s.Marts[mart]
	return without(price, m.Rate) - m.Freight
}

// low returns the least that a bale of a grade brings in a mart.
func (s sold) low(mart, grade int) int { return s.net(mart, s.Marts[mart].Prices[grade].Low) }

// high returns the most that a bale of a grade brings in a mart.
func (s sold) high(mart, grade int) int { return s.net(mart, s.Marts[mart].Prices[grade].High) }

// both returns both ends of what a bale of a grade brings in a mart.
func (s sold) both() [ends]func(mart, grade int) int {
	return [ends]func(mart, grade int) int{low: s.low, high: s.high}
}

// cells yields each mart of the store with each grade, in their order.
func (s sold) cells() iter.Seq2[int, int] {
	return func(yield func(mart, grade int) bool) {
		for mart := range s.Marts {
			for grade := range s.Stock {
				if !yield(mart, grade) {
					return
				}
			}
		}
	}
}

// brings returns what the sale brings, if a bale brings so much.
func (s sold) brings(bale func(mart, grade int) int) int {
	total := 0
	for mart, grade := range s.cells() {
		total += s.bales[mart][grade] * bale(mart, grade)
	}
	return total
}

// sure returns the least and the most that the sale can bring.
func (s sold) sure() api.Span {
	both := s.both()
	return api.Span{Low: s.brings(both[low]), High: s.brings(both[high])}
}

// more returns the least and the most that the sale can bring more than another one of the store. Each price that a truth has can come with any other ones.
func (s sold) more(other sold) api.Span {
	both := s.both()
	var more api.Span
	for mart, grade := range s.cells() {
		bales := s.bales[mart][grade] - other.bales[mart][grade]
		a, b := bales*both[low](mart, grade), bales*both[high](mart, grade)
		more.Low += min(a, b)
		more.High += max(a, b)
	}
	return more
}

// arePrices reports whether prices are those of a truth of the store.
func (s sold) arePrices(prices [][]int) bool {
	if len(prices) != len(s.Marts) || !all(prices, func(row []int) bool { return len(row) == len(s.Stock) }) {
		return false
	}
	for mart, grade := range s.cells() {
		span := s.Marts[mart].Prices[grade]
		if !within(prices[mart][grade], span.Low, span.High) {
			return false
		}
	}
	return true
}

// Brings returns what a sale brings, in truth.
func Brings(s api.MarketStore, sale, prices [][]int) (int, api.Errno) {
	x, e := soldOf(s, sale)
	if e != api.OK || !x.arePrices(prices) {
		return 0, api.ErrArg
	}
	return x.brings(func(mart, grade int) int { return x.net(mart, prices[mart][grade]) }), api.OK
}

// Sure returns the least and the most that a sale can bring.
func Sure(s api.MarketStore, sale [][]int) (api.Span, api.Errno) {
	x, e := soldOf(s, sale)
	if e != api.OK {
		return api.Span{}, e
	}
	return x.sure(), api.OK
}

// Betters reports whether a sale betters another one.
func Betters(s api.MarketStore, a, b [][]int) (bool, api.Errno) {
	x, e := soldOf(s, a)
	if e != api.OK {
		return false, e
	}
	y, e := soldOf(s, b)
	if e != api.OK {
		return false, e
	}
	more := x.more(y)
	return more.Low >= 0 && more.High > 0, api.OK
}

// known is a sale with what it can bring.
type known struct {
	sold
	brings api.Span
}

// betters reports whether a sale surely brings more than another one, or as much, and can bring more.
func (k known) betters(other known) bool {
	if k.brings.Low != other.brings.Low {
		return k.brings.Low > other.brings.Low
	}
	return k.brings.High > other.brings.High
}

// sales yields all sales of a store, in lexicographic order.
func sales(s api.MarketStore) iter.Seq[known] {
	return func(yield func(known) bool) {
		grades := len(s.Stock)
		var extend func(x sold, cell int) bool
		extend = func(x sold, cell int) bool {
			mart, grade := cell/grades, cell%grades
			if mart == len(s.Marts) {
				return yield(known{x, x.sure()})
			}
			for bales := range x.room(mart, grade) + 1 {
				x.bales[mart][grade] = bales
				if !extend(x, cell+1) {
					return false
				}
			}
			return true
		}
		extend(sold{MarketStore: s}, 0)
	}
}

// Sell returns the best sale, and the least and the most that it can bring.
func Sell(s api.MarketStore) ([][]int, api.Span, api.Errno) {
	if e := Check(s); e != api.OK {
		return nil, api.Span{}, e
	}
	found, _ := best(sales(s), known.betters)
	return found.sale(), found.brings, api.OK
}
