package market_test

import (
	"math/rand"
	"reflect"
	"slices"
	"testing"

	"bathyal/api"
)

const most, least = 1<<63 - 1, -1 << 63

// lastDay is the last day of prices.
const lastDay = api.MarketDays

func sp(low, high int) api.Span { return api.Span{Low: low, High: high} }

func just(n int) api.Span { return sp(n, n) }

func spans(s ...api.Span) []api.Span { return s }

func l(n ...int) []int { return n }

// ll returns a list of lists.
func ll(n ...[]int) [][]int { return n }

func post(day, price int) api.MarketPost { return api.MarketPost{Day: day, Price: price} }

// news returns news with posts.
func news(drift int, p ...api.MarketPost) api.MarketNews {
	return api.MarketNews{Drift: drift, Posts: p}
}

// newsN returns the news n of the chapter.
func newsN() api.MarketNews { return news(5, post(10, 100), post(20, 120)) }

// pricesN returns prices that are true of the news n: 100 up to the day 10, then 2 more each day up to the day 20.
func pricesN() []int {
	var prices []int
	for day := range lastDay + 1 {
		prices = append(prices, 100+2*min(10, max(0, day-10)))
	}
	return prices
}

func rising(price, end int) api.MarketBid {
	return api.MarketBid{Rising: true, Price: price, More: end}
}

func sealed(price, shade int) api.MarketBid { return api.MarketBid{Price: price, More: shade} }

func bids(b ...api.MarketBid) []api.MarketBid { return b }

// bidsB returns the bids b of the chapter.
func bidsB() []api.MarketBid { return bids(rising(50, 80), sealed(60, 20)) }

// wishesW returns the wishes w of the chapter.
func wishesW() [][]int { return ll(l(50, 30), l(40), l(30, 10)) }

// mart returns a mart with a rate, a freight, how much it takes, and prices.
func mart(rate, freight, takes int, prices ...api.Span) api.MarketMart {
	return api.MarketMart{Prices: prices, Rate: rate, Freight: freight, Takes: takes}
}

func store(stock []int, marts ...api.MarketMart) api.MarketStore {
	return api.MarketStore{Stock: stock, Marts: marts}
}

// storeS returns the store s of the chapter.
func storeS() api.MarketStore {
	return store(l(3, 2), mart(10, 10, 3, sp(100, 120), sp(40, 60)), mart(0, 20, 4, sp(90, 150), just(50)))
}

// withStore returns the store s with something changed.
func withStore(change func(*api.MarketStore)) api.MarketStore {
	s := storeS()
	change(&s)
	return s
}

// The sales of the chapter, and none at all.
func saleA() [][]int { return ll(l(3, 0), l(0, 2)) }

func saleC() [][]int { return ll(l(2, 0), l(0, 2)) }

func saleD() [][]int { return ll(l(0, 0), l(3, 1)) }

func noSale() [][]int { return ll(l(0, 0), l(0, 0)) }

// lowest returns the prices of the store s that are the least ones.
func lowest() [][]int { return ll(l(100, 40), l(90, 50)) }

func bill(low, high, amount, rate int) api.MarketBill {
	return api.MarketBill{Due: sp(low, high), Amount: amount, Rate: rate}
}

func bills(b ...api.MarketBill) []api.MarketBill { return b }

func debts(d ...api.MarketDebt) []api.MarketDebt { return d }

func debt(day, amount int) api.MarketDebt { return api.MarketDebt{Day: day, Amount: amount} }

// bookM returns the book m of the chapter.
func bookM() api.MarketBook {
	return api.MarketBook{Cash: 100, Bills: bills(bill(10, 20, 200, 10), bill(5, 8, 100, 5)), Debts: debts(debt(10, 250))}
}

// withBook returns the book m with something changed.
func withBook(change func(*api.MarketBook)) api.MarketBook {
	b := bookM()
	change(&b)
	return b
}

// badNumbers returns numbers that are not from low to high.
func badNumbers(low, high int) []int { return l(low-1, high+1, least, most) }

// badSpans returns spans that are not as defined, if they have to lie from 0 to high.
func badSpans(high int) []api.Span {
	return spans(sp(-1, high), sp(0, high+1), sp(high, 0), sp(1, 0), just(-1), just(high+1), sp(least, most), sp(most, least), sp(least, least), sp(most, most))
}

// badNews returns news that is not as defined.
func badNews() []api.MarketNews {
	bad := []api.MarketNews{news(5), {Drift: 5, Posts: []api.MarketPost{}}, news(5, slices.Repeat([]api.MarketPost{post(1, 1)}, api.MarketPosts+1)...)}
	for _, n := range badNumbers(0, api.MarketDrift) {
		bad = append(bad, news(n, post(10, 100)))
	}
	for _, n := range badNumbers(0, lastDay) {
		bad = append(bad, news(5, post(n, 100)), news(5, post(10, 100), post(n, 100)))
	}
	for _, n := range badNumbers(0, api.MarketPrice) {
		bad = append(bad, news(5, post(10, n)), news(5, post(10, 100), post(20, n)))
	}
	return bad
}

// badBids returns lists of bids that are not as defined.
func badBids() [][]api.MarketBid {
	bad := [][]api.MarketBid{nil, {}, slices.Repeat(bids(rising(50, -1)), api.MarketBids+1)}
	add := func(b api.MarketBid) { bad = append(bad, bids(b), bids(rising(50, 80), b), bids(b, sealed(60, 20))) }
	for _, n := range badNumbers(0, api.MarketWorth) {
		for _, more := range l(-1, 0, 10, 90, api.MarketWorth, most) {
			add(rising(n, more))
			add(sealed(n, more))
		}
	}
	for _, n := range l(least, -2, 0, 49, 50, api.MarketWorth+1, most) {
		add(rising(50, n))
	}
	for _, n := range badNumbers(0, api.MarketShade) {
		add(sealed(50, n))
	}
	add(rising(api.MarketWorth, api.MarketWorth))
	add(rising(api.MarketWorth, api.MarketWorth+1))
	return bad
}

// badWishes returns lists of what buyers bid that are not as defined.
func badWishes() [][][]int {
	bad := [][][]int{nil, {}, make([][]int, api.MarketBuyers+1), ll(l(1, 1, 1, 1, 1)), ll(l(1, 2)), ll(l(3, 2, 3)), ll(l(50), l(3, 3, 2, 3)), ll(nil, nil, nil, l(0, 1)), ll(l(5), l(4, 4, 4, 4, 4), l(3))}
	for _, n := range badNumbers(0, api.MarketWorth) {
		bad = append(bad, ll(l(n)), ll(l(n, n)), ll(l(50, 30), l(n)), ll(l(50, n)), ll(l(n, 30)))
	}
	return bad
}

// badMinds returns lists of spans that are not as defined.
func badMinds() [][]api.Span {
	bad := [][]api.Span{nil, {}, make([]api.Span, api.MarketBuyers+1)}
	for _, s := range badSpans(api.MarketWorth) {
		bad = append(bad, spans(s), spans(sp(40, 60), s), spans(s, sp(40, 60)))
	}
	return bad
}

// badStores returns stores that are not as defined.
func badStores() []api.MarketStore {
	bad := []api.MarketStore{{}, store(nil), store(l(1)), store(nil, mart(0, 0, 0)), store(l(1, 1, 1), mart(0, 0, 0, just(1), just(1), just(1)))}
	add := func(change func(*api.MarketStore)) { bad = append(bad, withStore(change)) }
	add(func(s *api.MarketStore) { s.Stock = nil })
	add(func(s *api.MarketStore) { s.Stock = l(3) })
	add(func(s *api.MarketStore) { s.Marts = nil })
	add(func(s *api.MarketStore) { s.Marts = []api.MarketMart{} })
	add(func(s *api.MarketStore) { s.Marts = slices.Repeat(s.Marts, 2) })
	for i := range 2 {
		for _, n := range badNumbers(0, api.MarketBales) {
			add(func(s *api.MarketStore) { s.Stock[i] = n })
		}
		add(func(s *api.MarketStore) { s.Marts[i].Prices = nil })
		add(func(s *api.MarketStore) { s.Marts[i].Prices = s.Marts[i].Prices[:1] })
		add(func(s *api.MarketStore) { s.Marts[i].Prices = slices.Repeat(s.Marts[i].Prices, 2) })
		for grade := range 2 {
			for _, x := range badSpans(api.MarketWorth) {
				add(func(s *api.MarketStore) { s.Marts[i].Prices[grade] = x })
			}
		}
		for _, n := range badNumbers(0, api.MarketRate) {
			add(func(s *api.MarketStore) { s.Marts[i].Rate = n })
		}
		for _, n := range badNumbers(0, api.MarketFreight) {
			add(func(s *api.MarketStore) { s.Marts[i].Freight = n })
		}
		for _, n := range badNumbers(0, api.MarketTakes) {
			add(func(s *api.MarketStore) { s.Marts[i].Takes = n })
		}
	}
	return bad
}

// badSales returns lists that are no sales of the store s.
func badSales() [][][]int {
	bad := [][][]int{nil, {}, ll(l(0, 0)), ll(l(0, 0), l(0, 0), l(0, 0)), ll(nil, nil), ll(l(0), l(0)), ll(l(0, 0), l(0)), ll(l(0), l(0, 0)), ll(l(0, 0, 0), l(0, 0, 0)), ll(l(0, 0), l(0, 0, 0))}
	// more than there are of a grade, and more than a mart takes
	bad = append(bad, ll(l(2, 0), l(2, 0)), ll(l(0, 0), l(4, 0)), ll(l(0, 1), l(0, 2)), ll(l(0, 3), l(0, 0)), ll(l(2, 2), l(0, 0)), ll(l(3, 1), l(0, 0)), ll(l(0, 0), l(3, 2)))
	// sums that are right again, or seem so
	bad = append(bad, ll(l(4, 0), l(-1, 0)), ll(l(-1, 0), l(4, 0)), ll(l(3, -1), l(0, 2)), ll(l(-1, 3), l(0, 0)), ll(l(most, 0), l(most, 0)), ll(l(most, 2), l(2, 0)), ll(l(2, 0), l(most, most)), ll(l(least, 0), l(least, 0)), ll(l(1<<32, 0), l(0, 0)))
	for _, n := range l(-1, least, 7, most) {
		bad = append(bad, ll(l(n, 0), l(0, 0)), ll(l(0, n), l(0, 0)), ll(l(0, 0), l(n, 0)), ll(l(0, 0), l(0, n)))
	}
	return bad
}

// badBooks returns books of bills that are not as defined.
func badBooks() []api.MarketBook {
	bad := []api.MarketBook{}
	add := func(change func(*api.MarketBook)) { bad = append(bad, withBook(change)) }
	add(func(b *api.MarketBook) { b.Bills = slices.Repeat(bills(bill(1, 1, 1, 1)), api.MarketBills+1) })
	add(func(b *api.MarketBook) { b.Bills = slices.Repeat(bills(bill(1, 1, 1, 1)), 100) })
	add(func(b *api.MarketBook) { b.Debts = slices.Repeat(debts(debt(1, 1)), api.MarketDebts+1) })
	for _, n := range badNumbers(0, api.MarketCash) {
		add(func(b *api.MarketBook) { b.Cash = n })
		add(func(b *api.MarketBook) { b.Debts[0].Amount = n })
		add(func(b *api.MarketBook) { b.Debts = append(b.Debts, debt(20, n)) })
	}
	for _, n := range badNumbers(0, lastDay) {
		add(func(b *api.MarketBook) { b.Debts[0].Day = n })
	}
	for i := range 2 {
		for _, s := range badSpans(lastDay) {
			add(func(b *api.MarketBook) { b.Bills[i].Due = s })
		}
		for _, n := range badNumbers(0, api.MarketCash) {
			add(func(b *api.MarketBook) { b.Bills[i].Amount = n })
		}
		for _, n := range badNumbers(0, api.MarketRate) {
			add(func(b *api.MarketBook) { b.Bills[i].Rate = n })
		}
	}
	return bad
}

// source returns numbers that are the same in each run.
func source(seed int64) *rand.Rand { return rand.New(rand.NewSource(seed)) }

// anyOf returns a number from low to high.
func anyOf(r *rand.Rand, low, high int) int { return low + r.Intn(high-low+1) }

// anySpan returns a span that lies from 0 to high.
func anySpan(r *rand.Rand, high int) api.Span {
	a, b := anyOf(r, 0, high), anyOf(r, 0, high)
	if r.Intn(3) == 0 {
		b = min(a+r.Intn(4), high)
	}
	return sp(min(a, b), max(a, b))
}

// inside returns a span that lies in another one.
func inside(r *rand.Rand, s api.Span) api.Span {
	a, b := anyOf(r, s.Low, s.High), anyOf(r, s.Low, s.High)
	return sp(min(a, b), max(a, b))
}

// anyPrices returns prices that change by at most so much in a day.
func anyPrices(r *rand.Rand, drift, first int) []int {
	prices, trend := l(first), r.Intn(3)-1
	for len(prices) <= lastDay {
		step := anyOf(r, -drift, drift)
		if r.Intn(2) == 0 {
			step = trend * drift
		}
		prices = append(prices, max(0, prices[len(prices)-1]+step))
	}
	return prices
}

// anyNews returns news, mostly such that prices that are returned with it are true.
func anyNews(r *rand.Rand) (api.MarketNews, []int) {
	n := news(anyOf(r, 0, 6))
	if r.Intn(4) == 0 {
		n.Drift = anyOf(r, 0, api.MarketDrift)
	}
	prices := anyPrices(r, n.Drift, anyOf(r, 0, 200))
	for range anyOf(r, 1, api.MarketPosts) {
		day := anyOf(r, 0, lastDay)
		price := min(prices[day], api.MarketPrice)
		if r.Intn(10) == 0 {
			price = min(price+r.Intn(4), api.MarketPrice)
		}
		n.Posts = append(n.Posts, post(day, price))
	}
	return n, prices
}

// anyBids returns bids, mostly of a buyer to whom the parcel is worth some number.
func anyBids(r *rand.Rand) []api.MarketBid {
	worth := anyOf(r, 0, 100)
	if r.Intn(4) == 0 {
		worth = anyOf(r, 0, api.MarketWorth)
	}
	var list []api.MarketBid
	for range anyOf(r, 1, api.MarketBids) {
		switch r.Intn(4) {
		case 0:
			list = append(list, rising(max(0, worth-r.Intn(20)), -1))
		case 1:
			price := max(0, worth-r.Intn(20))
			list = append(list, rising(price, min(max(price, worth)+1+r.Intn(5), api.MarketWorth+1)))
			if last := &list[len(list)-1]; last.More > api.MarketWorth {
				last.More = -1
			}
		default:
			shade := anyOf(r, 0, api.MarketShade)
			least := worth * (100 - shade) / 100
			list = append(list, sealed(anyOf(r, least, worth), shade))
		}
	}
	if r.Intn(6) == 0 {
		list[0] = sealed(anyOf(r, 0, api.MarketWorth), anyOf(r, 0, api.MarketShade))
	}
	return list
}

// anyWishes returns wishes, with prices up to a number.
func anyWishes(r *rand.Rand, high int) [][]int {
	var wishes [][]int
	for range anyOf(r, 1, api.MarketBuyers) {
		var prices []int
		for range r.Intn(api.MarketParcels + 1) {
			prices = append(prices, anyOf(r, 0, high))
		}
		slices.Sort(prices)
		slices.Reverse(prices)
		wishes = append(wishes, prices)
	}
	return wishes
}

// anyMinds returns minds, with numbers up to one.
func anyMinds(r *rand.Rand, high int) []api.Span {
	var minds []api.Span
	for range anyOf(r, 1, api.MarketBuyers) {
		minds = append(minds, anySpan(r, high))
	}
	return minds
}

// anyStore returns a store with at most so many bales of each grade.
func anyStore(r *rand.Rand, bales int) api.MarketStore {
	var s api.MarketStore
	for range anyOf(r, 1, api.MarketGrades) {
		s.Stock = append(s.Stock, max(anyOf(r, 0, bales), anyOf(r, 0, bales)))
	}
	price, freight := 30, 10
	if r.Intn(3) == 0 {
		price, freight = api.MarketWorth, api.MarketFreight
	}
	for range max(anyOf(r, 1, api.MarketMarts), anyOf(r, 1, api.MarketMarts)) {
		m := mart(anyOf(r, 0, api.MarketRate), anyOf(r, 0, freight), anyOf(r, 0, api.MarketTakes))
		if r.Intn(2) == 0 {
			m.Rate, m.Freight, m.Takes = 0, 0, anyOf(r, 0, 5)
		}
		for range s.Stock {
			m.Prices = append(m.Prices, anySpan(r, price))
		}
		s.Marts = append(s.Marts, m)
	}
	return s
}

// anySale returns a sale of a store.
func anySale(r *rand.Rand, s api.MarketStore) [][]int {
	left := slices.Clone(s.Stock)
	var sale [][]int
	for _, m := range s.Marts {
		takes := m.Takes
		var row []int
		for grade := range left {
			n := anyOf(r, 0, min(left[grade], takes))
			left[grade] -= n
			takes -= n
			row = append(row, n)
		}
		sale = append(sale, row)
	}
	return sale
}

// copied returns a store that shares no memory with another one.
func copied(s api.MarketStore) api.MarketStore {
	s.Stock, s.Marts = slices.Clone(s.Stock), slices.Clone(s.Marts)
	for i := range s.Marts {
		s.Marts[i].Prices = slices.Clone(s.Marts[i].Prices)
	}
	return s
}

// anyBook returns a book of at most so many bills, that are due within so many days.
func anyBook(r *rand.Rand, many, long int) api.MarketBook {
	b := api.MarketBook{Cash: anyOf(r, 0, 60)}
	for range r.Intn(many + 1) {
		low := anyOf(r, 0, 20)
		b.Bills = append(b.Bills, bill(low, low+r.Intn(long), anyOf(r, 0, 60), anyOf(r, 0, api.MarketRate)))
	}
	for range r.Intn(api.MarketDebts + 1) {
		b.Debts = append(b.Debts, debt(anyOf(r, 0, 25), anyOf(r, 0, 60)))
	}
	return b
}

// contains reports whether a set has a number.
func contains(set, number int) bool { return set/(1<<number)%2 == 1 }

// inSpan reports whether a number lies in a span.
func inSpan(n int, s api.Span) bool { return n >= s.Low && n <= s.High }

// lists calls a function with all lists of numbers, one of each span, in lexicographic order.
func lists(of []api.Span, do func(list []int)) {
	var list []int
	for _, s := range of {
		list = append(list, s.Low)
	}
	for {
		do(list)
		at := len(list) - 1
		for at >= 0 && list[at] == of[at].High {
			list[at] = of[at].Low
			at--
		}
		if at < 0 {
			return
		}
		list[at]++
	}
}

// rows returns a list as rows of so many numbers each.
func rows(list []int, each int) [][]int { return slices.Collect(slices.Chunk(list, each)) }

// flat returns the numbers of all rows.
func flat(rows [][]int) []int { return slices.Concat(rows...) }

// total returns the sum of all numbers of a list.
func total(list []int) int {
	sum := 0
	for _, n := range list {
		sum += n
	}
	return sum
}

// equal compares values of any type; nil and empty lists are the same.
func equal(a, b any) bool {
	return same(reflect.ValueOf(a), reflect.ValueOf(b))
}

func same(x, y reflect.Value) bool {
	if x.Type() != y.Type() {
		return false
	}
	switch x.Kind() {
	case reflect.Slice:
		if x.Len() != y.Len() {
			return false
		}
		for i := range x.Len() {
			if !same(reflect.ValueOf(x.Index(i).Interface()), reflect.ValueOf(y.Index(i).Interface())) {
				return false
			}
		}
		return true
	case reflect.Struct:
		for i := range x.NumField() {
			if !same(x.Field(i), y.Field(i)) {
				return false
			}
		}
		return true
	}
	return reflect.DeepEqual(x.Interface(), y.Interface())
}

// wantAll fails if some kind of case was never met, so that a test does not pass for nothing.
func wantAll[K comparable](t *testing.T, met map[K]int, kinds ...K) {
	t.Helper()
	for _, kind := range kinds {
		if met[kind] < 5 {
			t.Errorf("only %d cases: %v", met[kind], kind)
		}
	}
}
