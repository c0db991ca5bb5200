package market_test

import (
	"math/bits"
	"math/rand"
	"slices"
	"testing"

	"bathyal/api"
	"bathyal/market"
)

// book returns a book of bills.
func book(cash int, b []api.MarketBill, d []api.MarketDebt) api.MarketBook {
	return api.MarketBook{Cash: cash, Bills: b, Debts: d}
}

// P8.7
func TestShort(t *testing.T) {
	late := bills(bill(0, 60, 100, 0))
	for i, x := range []struct {
		b        api.MarketBook
		set, day int
		e        api.Errno
	}{
		{bookM(), 0, 10, api.OK}, {bookM(), 1, 0, api.ErrNone}, {bookM(), 2, 10, api.OK}, {bookM(), 3, 0, api.ErrNone},
		// no bills, no debts, and no money
		{api.MarketBook{}, 0, 0, api.ErrNone}, {book(0, nil, debts(debt(0, 1))), 0, 0, api.OK}, {book(1, nil, debts(debt(0, 1))), 0, 0, api.ErrNone}, {book(0, nil, debts(debt(0, 0), debt(60, 0))), 0, 0, api.ErrNone}, {book(0, nil, debts(debt(60, 1))), 0, 60, api.OK}, {book(10, nil, debts(debt(20, 5), debt(10, 6))), 0, 20, api.OK}, {book(10, nil, debts(debt(20, 5), debt(10, 11))), 0, 10, api.OK}, {book(10, nil, debts(debt(20, 5), debt(20, 6))), 0, 20, api.OK}, {book(10, nil, debts(debt(20, 4), debt(20, 6))), 0, 0, api.ErrNone}, {book(10, nil, debts(debt(40, 4), debt(30, 4), debt(20, 4), debt(50, 4))), 0, 40, api.OK},
		// bills that are paid on the day of a debt, or later
		{book(0, bills(bill(3, 5, 100, 0)), debts(debt(5, 100))), 0, 0, api.ErrNone}, {book(0, bills(bill(3, 5, 100, 0)), debts(debt(5, 101))), 0, 5, api.OK}, {book(0, bills(bill(3, 6, 100, 0)), debts(debt(5, 1))), 0, 5, api.OK}, {book(0, bills(bill(3, 6, 100, 0)), debts(debt(5, 0), debt(6, 100))), 0, 0, api.ErrNone}, {book(0, bills(bill(0, 0, 100, 0)), debts(debt(0, 100))), 0, 0, api.ErrNone}, {book(0, late, debts(debt(60, 100))), 0, 0, api.ErrNone}, {book(0, late, debts(debt(59, 1))), 0, 59, api.OK}, {book(0, bills(bill(2, 2, 30, 0), bill(4, 4, 30, 0), bill(6, 6, 30, 0)), debts(debt(3, 30), debt(5, 30), debt(6, 31))), 0, 6, api.OK},
		// bills that are discounted bring less, on the day 0, and nothing more
		{book(0, late, debts(debt(0, 100))), 1, 0, api.ErrNone}, {book(0, bills(bill(60, 60, 100, 10)), debts(debt(0, 90))), 1, 0, api.ErrNone}, {book(0, bills(bill(60, 60, 100, 10)), debts(debt(0, 91))), 1, 0, api.OK}, {book(0, bills(bill(5, 5, 100, 10)), debts(debt(0, 90), debt(60, 1))), 1, 60, api.OK}, {book(0, bills(bill(5, 5, 99, 50)), debts(debt(0, 49))), 1, 0, api.ErrNone}, {book(0, bills(bill(5, 5, 99, 50)), debts(debt(0, 50))), 1, 0, api.OK}, {book(0, bills(bill(5, 5, 99, 50), bill(5, 5, 99, 50)), debts(debt(0, 99))), 3, 0, api.OK}, {book(0, bills(bill(5, 5, 1, 1)), debts(debt(0, 1))), 1, 0, api.OK},
		{book(1000000, slices.Repeat(bills(bill(60, 60, 1000000, 0)), 6), slices.Repeat(debts(debt(0, 1000000)), 4)), 7, 0, api.ErrNone}, {book(999999, slices.Repeat(bills(bill(60, 60, 1000000, 0)), 6), slices.Repeat(debts(debt(0, 1000000)), 4)), 7, 0, api.OK}, {book(0, slices.Repeat(bills(bill(60, 60, 1000000, 50)), 6), debts(debt(30, 1000000), debt(40, 1000000), debt(50, 1000000))), 63, 0, api.ErrNone},
		// sets that are not as defined
		{bookM(), 4, 0, api.ErrArg}, {bookM(), -1, 0, api.ErrArg}, {bookM(), 7, 0, api.ErrArg}, {bookM(), least, 0, api.ErrArg}, {bookM(), most, 0, api.ErrArg}, {api.MarketBook{}, 1, 0, api.ErrArg}, {bookM(), 1 << 32, 0, api.ErrArg},
	} {
		if d, e := market.Short(x.b, x.set); e != x.e || d != x.day {
			t.Error(i, d, e)
		}
	}
}

// P8.7
func TestPaid(t *testing.T) {
	for i, x := range []struct {
		b    api.MarketBook
		set  int
		days []int
		want bool
		e    api.Errno
	}{
		{bookM(), 0, l(10, 8), true, api.OK}, {bookM(), 0, l(11, 8), false, api.OK}, {bookM(), 2, l(10, 5), true, api.OK}, {bookM(), 2, l(11, 5), false, api.OK}, {bookM(), 1, l(20, 8), true, api.OK}, {bookM(), 1, l(10, 5), true, api.OK}, {bookM(), 3, l(20, 8), true, api.OK}, {api.MarketBook{}, 0, nil, true, api.OK}, {book(0, nil, debts(debt(0, 1))), 0, nil, false, api.OK}, {book(0, bills(bill(3, 6, 100, 0)), debts(debt(5, 100))), 0, l(5), true, api.OK}, {book(0, bills(bill(3, 6, 100, 0)), debts(debt(5, 100))), 0, l(6), false, api.OK}, {book(0, bills(bill(0, 60, 100, 0)), debts(debt(0, 100))), 0, l(0), true, api.OK}, {book(0, bills(bill(0, 60, 100, 0)), debts(debt(60, 100))), 0, l(60), true, api.OK},
		// days that are not as defined, also of bills that are discounted
		{bookM(), 0, l(9, 8), false, api.ErrArg}, {bookM(), 0, l(21, 8), false, api.ErrArg}, {bookM(), 0, l(10, 4), false, api.ErrArg}, {bookM(), 0, l(10, 9), false, api.ErrArg}, {bookM(), 0, l(10), false, api.ErrArg}, {bookM(), 0, nil, false, api.ErrArg}, {bookM(), 0, l(10, 8, 8), false, api.ErrArg}, {bookM(), 1, l(9, 8), false, api.ErrArg}, {bookM(), 2, l(10, 9), false, api.ErrArg}, {bookM(), 3, l(10), false, api.ErrArg}, {bookM(), 3, nil, false, api.ErrArg}, {bookM(), 3, l(21, 8), false, api.ErrArg}, {bookM(), 0, l(least, 8), false, api.ErrArg}, {bookM(), 0, l(10, most), false, api.ErrArg}, {api.MarketBook{}, 0, l(0), false, api.ErrArg},
		// sets that are not as defined
		{bookM(), 4, l(10, 8), false, api.ErrArg}, {bookM(), -1, l(10, 8), false, api.ErrArg}, {bookM(), least, l(10, 8), false, api.ErrArg}, {bookM(), most, l(10, 8), false, api.ErrArg},
	} {
		if is, e := market.Paid(x.b, x.set, x.days); e != x.e || is != x.want {
			t.Error(i, is, e)
		}
	}
}

// P8.7
func TestBills(t *testing.T) {
	twins := bills(bill(10, 20, 100, 0), bill(10, 20, 100, 0))
	now := func(amount int) []api.MarketDebt { return debts(debt(0, amount)) }
	for i, x := range []struct {
		b         api.MarketBook
		set, lost int
		e         api.Errno
	}{
		{bookM(), 1, 20, api.OK}, {withBook(func(b *api.MarketBook) { b.Cash = 250 }), 0, 0, api.OK}, {withBook(func(b *api.MarketBook) { b.Debts[0].Amount = 500 }), 0, 0, api.ErrNone}, {withBook(func(b *api.MarketBook) { b.Debts[0].Day = 20 }), 0, 0, api.OK}, {withBook(func(b *api.MarketBook) { b.Debts[0].Day = 19 }), 1, 20, api.OK}, {withBook(func(b *api.MarketBook) { b.Debts[0] = debt(4, 375) }), 3, 25, api.OK}, {withBook(func(b *api.MarketBook) { b.Debts[0] = debt(4, 376) }), 0, 0, api.ErrNone}, {withBook(func(b *api.MarketBook) { b.Debts[0] = debt(4, 195) }), 2, 5, api.OK}, {withBook(func(b *api.MarketBook) { b.Debts[0] = debt(4, 196) }), 1, 20, api.OK},
		{api.MarketBook{}, 0, 0, api.OK}, {book(0, nil, now(0)), 0, 0, api.OK}, {book(0, nil, now(1)), 0, 0, api.ErrNone}, {book(0, twins, nil), 0, 0, api.OK},
		// of several, with the fewest bills; of several, the least number
		{book(0, twins, debts(debt(5, 100))), 1, 0, api.OK}, {book(0, twins, debts(debt(5, 101))), 3, 0, api.OK}, {book(0, bills(bill(9, 9, 50, 0), bill(9, 9, 50, 0), bill(9, 9, 100, 0)), now(100)), 4, 0, api.OK}, {book(0, bills(bill(9, 9, 100, 5), bill(9, 9, 100, 5), bill(9, 9, 200, 5)), now(190)), 4, 10, api.OK}, {book(0, bills(bill(9, 9, 50, 4), bill(9, 9, 50, 4), bill(9, 9, 100, 5)), now(95)), 3, 4, api.OK}, {book(0, bills(bill(9, 9, 10, 0), bill(9, 9, 20, 0), bill(9, 9, 30, 0), bill(9, 9, 30, 0)), now(50)), 6, 0, api.OK}, {book(0, slices.Repeat(bills(bill(60, 60, 10, 0)), 6), now(30)), 7, 0, api.OK}, {book(0, slices.Repeat(bills(bill(60, 60, 10, 0)), 6), now(60)), 63, 0, api.OK}, {book(0, slices.Repeat(bills(bill(60, 60, 10, 0)), 6), now(61)), 0, 0, api.ErrNone},
		// what is lost is rounded up for each bill
		{book(0, bills(bill(9, 9, 99, 50)), now(49)), 1, 50, api.OK}, {book(0, bills(bill(9, 9, 99, 50), bill(9, 9, 99, 50)), now(98)), 3, 100, api.OK}, {book(0, bills(bill(9, 9, 99, 50), bill(9, 9, 99, 50)), now(99)), 0, 0, api.ErrNone},
		// who discounts more does not have more at the end
		{book(0, bills(bill(0, 10, 100, 50)), debts(debt(10, 100))), 0, 0, api.OK}, {book(0, bills(bill(0, 10, 100, 50), bill(0, 10, 100, 50)), debts(debt(0, 50), debt(10, 100))), 1, 50, api.OK}, {book(0, bills(bill(0, 10, 100, 50), bill(0, 10, 100, 50)), debts(debt(0, 50), debt(10, 101))), 0, 0, api.ErrNone}, {book(1000000, slices.Repeat(bills(bill(0, 60, 1000000, 50)), 6), slices.Repeat(debts(debt(0, 1000000)), 4)), 63, 3000000, api.OK}, {book(999999, slices.Repeat(bills(bill(0, 60, 1000000, 50)), 6), slices.Repeat(debts(debt(0, 1000000)), 4)), 0, 0, api.ErrNone},
	} {
		if s, n, e := market.Bills(x.b); e != x.e || s != x.set || n != x.lost {
			t.Error(i, s, n, e)
		}
	}
}

// P8.7: books that are not as defined
func TestBillErrors(t *testing.T) {
	for _, b := range badBooks() {
		for _, set := range l(0, 1, 3, -1) {
			if d, e := market.Short(b, set); e != api.ErrArg || d != 0 {
				t.Error(b, set, d, e)
			}
			for _, days := range ll(l(10, 8), nil, slices.Repeat(l(1), len(b.Bills))) {
				if is, e := market.Paid(b, set, days); e != api.ErrArg || is {
					t.Error(b, set, days, is, e)
				}
			}
		}
		if s, n, e := market.Bills(b); e != api.ErrArg || s != 0 || n != 0 {
			t.Error(b, s, n, e)
		}
	}
}

// shortDay returns the first day on which money is short, by the definition, or -1 if there is none.
func shortDay(b api.MarketBook, set int, days []int) int {
	for day := range lastDay + 1 {
		money, owed := b.Cash, 0
		for i, x := range b.Bills {
			switch {
			case contains(set, i):
				money += x.Amount * (100 - x.Rate) / 100
			case days[i] <= day:
				money += x.Amount
			}
		}
		for _, x := range b.Debts {
			if x.Day <= day {
				owed += x.Amount
			}
		}
		if money < owed {
			return day
		}
	}
	return -1
}

// firstShort returns the first day on which money is short in some truth, found in all of them, or -1 if there is none.
func firstShort(b api.MarketBook, set int) int {
	first := -1
	var due []api.Span
	for _, x := range b.Bills {
		due = append(due, x.Due)
	}
	lists(due, func(days []int) {
		if day := shortDay(b, set, days); day >= 0 && (first < 0 || day < first) {
			first = day
		}
	})
	return first
}

// lost returns what is lost with a set, by the definition.
func lost(b api.MarketBook, set int) int {
	sum := 0
	for i, x := range b.Bills {
		if contains(set, i) {
			sum += x.Amount - x.Amount*(100-x.Rate)/100
		}
	}
	return sum
}

// checkBook fails if what is told of a book is not as defined, for all of its sets, in all truths. It returns the error of Bills, and how many bills the best set has.
func checkBook(t *testing.T, b api.MarketBook) (api.Errno, int) {
	t.Helper()
	best := -1
	for set := range 1 << len(b.Bills) {
		want := firstShort(b, set)
		d, e := market.Short(b, set)
		if want < 0 && (e != api.ErrNone || d != 0) || want >= 0 && (e != api.OK || d != want) {
			t.Fatal(b, set, d, e, want)
		}
		less := best < 0 || lost(b, set) < lost(b, best)
		same := best >= 0 && lost(b, set) == lost(b, best)
		if want < 0 && (less || same && bits.OnesCount8(uint8(set)) < bits.OnesCount8(uint8(best))) {
			best = set
		}
	}
	set, n, e := market.Bills(b)
	if best < 0 && (e != api.ErrNone || set != 0 || n != 0) || best >= 0 && (e != api.OK || set != best || n != lost(b, best)) {
		t.Fatal(b, set, n, e, best)
	}
	return e, bits.OnesCount8(uint8(set))
}

// P8.7: of all sets, in all truths
func TestBillsOfAny(t *testing.T) {
	r := source(16)
	met := map[any]int{}
	for range 3000 {
		e, many := checkBook(t, anyBook(r, 4, 4))
		met[e]++
		met[many]++
	}
	for range 200 {
		e, many := checkBook(t, anyBook(r, api.MarketBills, 2))
		met[e]++
		met[many]++
	}
	wantAll(t, met, any(api.OK), any(api.ErrNone), any(0), any(1), any(2), any(3))
}

// P8.7: bills that are alike, so that several sets lose as much
func TestBillsOfTwins(t *testing.T) {
	r := source(17)
	met := map[int]int{}
	for range 2000 {
		b := anyBook(r, 4, 3)
		b.Cash = r.Intn(20)
		for i := range b.Bills {
			b.Bills[i].Amount, b.Bills[i].Rate = anyOf(r, 1, 4)*10, 10*r.Intn(2)
		}
		_, many := checkBook(t, b)
		met[many]++
	}
	wantAll(t, met, 0, 1, 2, 3)
}

// anyDays returns a day of each bill on which it can be paid.
func anyDays(r *rand.Rand, b api.MarketBook) []int {
	var days []int
	for _, x := range b.Bills {
		days = append(days, anyOf(r, x.Due.Low, x.Due.High))
	}
	return days
}

// P8.7: whenever bills are paid, with the set that is returned all debts are paid on their days; and so it is told of other sets
func TestPaidOfAny(t *testing.T) {
	r := source(18)
	met := map[bool]int{}
	for range 3000 {
		b := anyBook(r, api.MarketBills, 20)
		best, _, e := market.Bills(b)
		for range 10 {
			set, days := r.Intn(1<<len(b.Bills)), anyDays(r, b)
			is, f := market.Paid(b, set, days)
			if f != api.OK || is != (shortDay(b, set, days) < 0) {
				t.Fatal(b, set, days, is, f)
			}
			if _, g := market.Short(b, set); g == api.ErrNone && !is {
				t.Fatal(b, set, days)
			}
			met[is]++
			if is, f := market.Paid(b, best, days); e == api.OK && (f != api.OK || !is) {
				t.Fatal(b, best, days, is, f)
			}
		}
	}
	wantAll(t, met, true, false)
}

// P8.9: more cash, and bills that are due earlier, never make more be lost
func TestMoreCash(t *testing.T) {
	r := source(19)
	met := map[string]int{}
	for range 5000 {
		b := anyBook(r, api.MarketBills, 20)
		_, was, e := market.Bills(b)
		better := book(b.Cash+r.Intn(20), slices.Clone(b.Bills), b.Debts)
		for i := range better.Bills {
			due := &better.Bills[i].Due
			earlier := r.Intn(1 + due.Low)
			due.Low -= earlier
			due.High = anyOf(r, due.Low, due.High)
		}
		_, is, f := market.Bills(better)
		switch {
		case e == api.OK && (f != api.OK || is > was):
			t.Fatal(b, better, was, is, e, f)
		case e == api.OK && is < was:
			met["less"]++
		case e != api.OK && f == api.OK:
			met["enough now"]++
		}
	}
	wantAll(t, met, "less", "enough now")
}
