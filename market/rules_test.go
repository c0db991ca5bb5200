package market_test

import (
	"math/rand"
	"slices"
	"testing"

	"bathyal/api"
	"bathyal/market"
)

// results is the results of a call, of which the last one is its error.
type results []any

// given is arguments of all functions.
type given struct {
	news             api.MarketNews
	day              int
	prices           []int
	bids             []api.MarketBid
	worth            int
	parcels, reserve int
	rising           bool
	wishes           [][]int
	minds            []api.Span
	store            api.MarketStore
	sale, other      [][]int
	truth            [][]int
	book             api.MarketBook
	set              int
	days             []int
	text             string
}

// functions is how many functions the chapter lists.
const functions = 16

// asked returns the results of all functions.
func asked(g given) []results {
	var all []results
	add := func(r ...any) { all = append(all, r) }
	s, e := market.Price(g.news, g.day)
	add(s, e)
	is, e := market.Moves(g.news, g.prices)
	add(is, e)
	s, e = market.Mind(g.bids)
	add(s, e)
	is, e = market.Agrees(g.bids, g.worth)
	add(is, e)
	gets, pays, e := market.Award(g.parcels, g.reserve, g.rising, g.wishes)
	add(gets, pays, e)
	a, b, e := market.Reserve(g.parcels, g.minds)
	add(a, b, e)
	add(market.Check(g.store))
	a, e = market.Brings(g.store, g.sale, g.truth)
	add(a, e)
	s, e = market.Sure(g.store, g.sale)
	add(s, e)
	is, e = market.Betters(g.store, g.sale, g.other)
	add(is, e)
	sale, s, e := market.Sell(g.store)
	add(sale, s, e)
	a, e = market.Short(g.book, g.set)
	add(a, e)
	is, e = market.Paid(g.book, g.set, g.days)
	add(is, e)
	a, b, e = market.Bills(g.book)
	add(a, b, e)
	text, e := market.Print(g.store, g.sale)
	add(text, e)
	sale, e = market.Read(g.store, g.text)
	add(sale, e)
	return all
}

// isZero reports whether a result is what it is together with an error.
func isZero(result any) bool {
	switch x := result.(type) {
	case bool:
		return !x
	case int:
		return x == 0
	case string:
		return x == ""
	case api.Span:
		return x == api.Span{}
	case []int:
		return len(x) == 0
	case [][]int:
		return len(x) == 0
	}
	return false
}

// wild returns a number, or one that is out of all ranges.
func wild(r *rand.Rand, n int) int {
	all := l(least, least+1, -256, -2, -1, 0, 1, 3, 4, 6, 7, 13, 50, 51, 60, 61, 64, 91, 1001, 4000, 4001, 1000001, 1<<31, 1<<32+1, most-1, most)
	if r.Intn(100) > 0 {
		return n
	}
	return all[r.Intn(len(all))]
}

// wildSpan returns a span, be it as defined or not.
func wildSpan(r *rand.Rand, s api.Span) api.Span { return sp(wild(r, s.Low), wild(r, s.High)) }

// wildList returns a longer list, or a shorter one, of which things can be changed.
func wildList[T any](r *rand.Rand, list []T, change func(*rand.Rand, T) T) []T {
	var all []T
	for _, x := range list {
		all = append(all, change(r, x))
	}
	switch r.Intn(80) {
	case 0:
		return slices.Repeat(all, anyOf(r, 2, 70))
	case 1:
		return all[:len(all)/2]
	case 2:
		return nil
	}
	return all
}

// wildRow returns a list of numbers, be it as defined or not.
func wildRow(r *rand.Rand, row []int) []int { return wildList(r, row, wild) }

// wildRows returns a list of lists of numbers, be it as defined or not.
func wildRows(r *rand.Rand, rows [][]int) [][]int { return wildList(r, rows, wildRow) }

// wildStore returns a store, be it as defined or not.
func wildStore(r *rand.Rand, s api.MarketStore) api.MarketStore {
	change := func(r *rand.Rand, m api.MarketMart) api.MarketMart {
		return mart(wild(r, m.Rate), wild(r, m.Freight), wild(r, m.Takes), wildList(r, m.Prices, wildSpan)...)
	}
	return api.MarketStore{Stock: wildRow(r, s.Stock), Marts: wildList(r, s.Marts, change)}
}

// wildBook returns a book of bills, be it as defined or not.
func wildBook(r *rand.Rand, b api.MarketBook) api.MarketBook {
	changeBill := func(r *rand.Rand, b api.MarketBill) api.MarketBill {
		return api.MarketBill{Due: wildSpan(r, b.Due), Amount: wild(r, b.Amount), Rate: wild(r, b.Rate)}
	}
	changeDebt := func(r *rand.Rand, d api.MarketDebt) api.MarketDebt { return debt(wild(r, d.Day), wild(r, d.Amount)) }
	return book(wild(r, b.Cash), wildList(r, b.Bills, changeBill), wildList(r, b.Debts, changeDebt))
}

// anything returns arguments, be they as defined or not.
func anything(r *rand.Rand) given {
	n, prices := anyNews(r)
	s := anyStore(r, 4)
	sale, b := anySale(r, s), anyBook(r, api.MarketBills, 20)
	var truth []int
	for _, x := range pricesOf(s) {
		truth = append(truth, anyOf(r, x.Low, x.High))
	}
	text, _ := market.Print(s, sale)
	text = string(wildList(r, []byte(text), func(r *rand.Rand, b byte) byte {
		if r.Intn(200) == 0 {
			return byte(r.Intn(256))
		}
		return b
	}))
	changePost := func(r *rand.Rand, p api.MarketPost) api.MarketPost { return post(wild(r, p.Day), wild(r, p.Price)) }
	changeBid := func(r *rand.Rand, b api.MarketBid) api.MarketBid {
		return api.MarketBid{Rising: b.Rising, Price: wild(r, b.Price), More: wild(r, b.More)}
	}
	return given{
		news: news(wild(r, n.Drift), wildList(r, n.Posts, changePost)...), day: wild(r, anyOf(r, 0, lastDay)), prices: wildRow(r, prices),
		bids: wildList(r, anyBids(r), changeBid), worth: wild(r, anyOf(r, 0, 100)),
		parcels: wild(r, anyOf(r, 1, api.MarketParcels)), reserve: wild(r, anyOf(r, 0, 30)), rising: r.Intn(2) == 0, wishes: wildRows(r, anyWishes(r, 50)), minds: wildList(r, anyMinds(r, 50), wildSpan),
		store: wildStore(r, s), sale: wildRows(r, sale), other: wildRows(r, anySale(r, s)), truth: wildRows(r, rows(truth, len(s.Stock))), text: text,
		book: wildBook(r, b), set: wild(r, r.Intn(1<<len(b.Bills))), days: wildRow(r, anyDays(r, b)),
	}
}

// P0.1, R2, R8: for all arguments, the functions end and do not panic, say the same again, and nothing but an error where there is one
func TestAnyValue(t *testing.T) {
	r := source(23)
	met := map[any]int{}
	for range 4000 {
		g := anything(r)
		a := asked(g)
		if b := asked(g); len(a) != functions || !equal(a, b) {
			t.Fatal(g, a, b)
		}
		for i, result := range a {
			last := len(result) - 1
			met[result[last]]++
			if result[last] != api.OK && slices.ContainsFunc(result[:last], func(x any) bool { return !isZero(x) }) {
				t.Fatal(g, i, result)
			}
			if result[last] == api.OK {
				met[i]++
			}
		}
	}
	wantAll(t, met, any(api.OK), any(api.ErrArg), any(api.ErrLong), any(api.ErrText), any(api.ErrNone), any(api.ErrRule))
	for i := range functions {
		wantAll(t, met, any(i))
	}
}

// P0.1: nothing but wild numbers, alone and together with arguments that are as defined
func TestWildest(t *testing.T) {
	for _, n := range l(least, least+1, -1, 0, 1, 2, 6, 7, 60, 61, 63, 64, 90, 91, 1<<31, 1<<32, most-1, most) {
		for many := range 8 {
			some := slices.Repeat(l(n), many)
			all := slices.Repeat(ll(some), many)
			g := given{
				news: news(n, slices.Repeat([]api.MarketPost{post(n, n)}, many)...), day: n, prices: slices.Repeat(l(n), lastDay+1), bids: slices.Repeat(bids(rising(n, n), sealed(n, n)), many), worth: n,
				parcels: n, reserve: n, rising: n%2 == 0, wishes: all, minds: slices.Repeat(spans(just(n)), many),
				store: store(some, slices.Repeat([]api.MarketMart{mart(n, n, n, slices.Repeat(spans(just(n)), many)...)}, many)...), sale: all, other: all, truth: all,
				book: book(n, slices.Repeat(bills(bill(n, n, n, n)), many), slices.Repeat(debts(debt(n, n)), many)), set: n, days: some,
			}
			asked(g)
			x := g
			x.news, x.bids, x.parcels, x.store, x.book = newsN(), bidsB(), 2, storeS(), bookM()
			asked(x)
			x.sale, x.set = saleA(), 1
			asked(x)
			x = roomy()
			x.news, x.bids, x.wishes, x.store, x.book = g.news, g.bids, g.wishes, g.store, g.book
			asked(x)
		}
	}
}

// R3: nil and empty lists are the same
func TestNilAndEmpty(t *testing.T) {
	a, b := roomy(), roomy()
	a.wishes[1], a.book.Bills, a.book.Debts, a.days, a.set = nil, nil, nil, nil, 0
	b.wishes[1], b.book.Bills, b.book.Debts, b.days, b.set = l(), bills(), debts(), l(), 0
	if v, w := asked(a), asked(b); !equal(v, w) {
		t.Error(v, w)
	}
	a.news.Posts, a.prices, a.bids, a.wishes, a.minds, a.store, a.sale = nil, nil, nil, nil, nil, api.MarketStore{}, nil
	b.news.Posts, b.prices, b.bids, b.wishes, b.minds, b.store, b.sale = []api.MarketPost{}, l(), bids(), ll(), spans(), store(l(), []api.MarketMart{}...), ll()
	if v, w := asked(a), asked(b); !equal(v, w) {
		t.Error(v, w)
	}
}

// fill returns a list that has room for more, which is filled with copies of the first thing.
func fill[T any](list []T) []T {
	all := slices.Concat(list, slices.Repeat(list[:1], 4))
	return all[:len(list)]
}

// fillRows returns lists that have room for more.
func fillRows(rows [][]int) [][]int {
	for i := range rows {
		rows[i] = fill(rows[i])
	}
	return fill(rows)
}

// roomy returns arguments of lists that have room for more, for which all functions have results.
func roomy() given {
	s, b := storeS(), bookM()
	for i := range s.Marts {
		s.Marts[i].Prices = fill(s.Marts[i].Prices)
	}
	s.Stock, s.Marts, b.Bills, b.Debts = fill(s.Stock), fill(s.Marts), fill(b.Bills), fill(b.Debts)
	return given{
		news: news(5, fill(newsN().Posts)...), day: 15, prices: fill(pricesN()), bids: fill(bidsB()), worth: 70,
		parcels: 3, reserve: 20, rising: true, wishes: fillRows(wishesW()), minds: fill(spans(sp(40, 60), sp(30, 50), sp(10, 90))),
		store: s, sale: fillRows(saleA()), other: fillRows(saleC()), truth: fillRows(lowest()), book: b, set: 0, days: fill(l(10, 8)), text: textA,
	}
}

// room returns all lists of arguments with what is behind their ends.
func room(g given) []any {
	all := []any{behind(g.news.Posts), behind(g.prices), behind(g.bids), behind(g.wishes), behind(g.minds), behind(g.store.Stock), behind(g.store.Marts), behind(g.sale), behind(g.other), behind(g.truth), behind(g.book.Bills), behind(g.book.Debts), behind(g.days)}
	for _, lists := range [][][]int{g.wishes, g.sale, g.other, g.truth} {
		for _, row := range lists {
			all = append(all, behind(row))
		}
	}
	for _, m := range g.store.Marts {
		all = append(all, behind(m.Prices))
	}
	return all
}

// behind returns a list that has room for more with what is there.
func behind[T any](list []T) []T { return list[:len(list)+4] }

// R4: no argument is changed, also beyond the end of a list
func TestArguments(t *testing.T) {
	g := roomy()
	for i, r := range asked(g) {
		if e := r[len(r)-1]; e != api.OK {
			t.Error(i, r)
		}
	}
	if !equal(room(g), room(roomy())) {
		t.Error(g)
	}
}

// R4: lists of a result share no memory with each other, with those of another call, nor with arguments
func TestResults(t *testing.T) {
	g := roomy()
	var all [][]int
	var sales [][][]int
	for range 2 {
		for _, r := range asked(g) {
			for _, x := range r {
				switch x := x.(type) {
				case []int:
					all = append(all, x)
				case [][]int:
					all = append(all, x...)
					sales = append(sales, x)
				}
			}
		}
	}
	if len(all) != 2*(2+2+2) || len(sales) != 2*2 {
		t.Error(len(all), len(sales))
	}
	for i := range all {
		all[i] = append(all[i], 99)
	}
	for i := range all {
		for k := range all[i] {
			all[i][k] = i
		}
	}
	for i := range all {
		if slices.ContainsFunc(all[i], func(n int) bool { return n != i }) {
			t.Error(all)
		}
	}
	for i := range sales {
		sales[i] = append(sales[i], nil)
		sales[i][0] = l(i)
	}
	for i := range sales {
		if sales[i][0][0] != i {
			t.Error(sales)
		}
	}
	if !equal(room(g), room(roomy())) || !equal(asked(g), asked(roomy())) {
		t.Error(g)
	}
}
