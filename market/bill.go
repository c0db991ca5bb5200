package market

import (
	"iter"
	"math/bits"

	"bathyal/api"
)

// isCash reports whether something is an amount of cash, of a bill or of a debt.
func isCash(n int) bool { return within(n, 0, api.MarketCash) }

// isBill reports whether a bill is as defined.
func isBill(b api.MarketBill) bool {
	return ordered(b.Due, api.MarketDays) && isCash(b.Amount) && within(b.Rate, 0, api.MarketRate)
}

// isDebt reports whether a debt is as defined.
func isDebt(d api.MarketDebt) bool { return isDay(d.Day) && isCash(d.Amount) }

// isBook reports whether a book of bills is as defined.
func isBook(b api.MarketBook) bool {
	return isCash(b.Cash) && len(b.Bills) <= api.MarketBills && all(b.Bills, isBill) && len(b.Debts) <= api.MarketDebts && all(b.Debts, isDebt)
}

// discounted is a book of which a set of bills is discounted.
type discounted struct {
	api.MarketBook
	set int
}

// discountedOf returns a book with a set of bills, or its error.
func discountedOf(b api.MarketBook, set int) (discounted, api.Errno) {
	if !isBook(b) || !within(set, 0, 1<<len(b.Bills)-1) {
		return discounted{}, api.ErrArg
	}
	return discounted{b, set}, api.OK
}

// has reports whether a bill is discounted.
func (d discounted) has(bill int) bool { return d.set>>bill&1 == 1 }

// brought returns what the bills that are discounted bring, and what is lost with them.
func (d discounted) brought() (brought, lost int) {
	for i, b := range d.Bills {
		if d.has(i) {
			n := without(b.Amount, b.Rate)
			brought += n
			lost += b.Amount - n
		}
	}
	return brought, lost
}

// paid returns what is paid on a day, if each bill is paid on its day of a list.
func (d discounted) paid(day int, days []int) int {
	paid := 0
	for i, b := range d.Bills {
		if days[i] == day && !d.has(i) {
			paid += b.Amount
		}
	}
	return paid
}

// short returns the first day on which money is short, if each bill is paid on its day of a list, or false if there is none.
func (d discounted) short(days []int) (first int, is bool) {
	brought, _ := d.brought()
	money := d.Cash + brought
search:
	for day := range api.MarketDays + 1 {
		money += d.paid(day, days)
		for _, debt := range d.Debts {
			if debt.Day != day {
				continue
			}
			money -= debt.Amount
			if money < 0 {
				first, is = day, true
				break search
			}
		}
	}
	return first, is
}

// latest returns the last day of each bill. If money is short on a day in some truth, it is so in the one in which all bills are paid as late as they can be.
func (d discounted) latest() []int {
	var days []int
	for _, b := range d.Bills {
		days = append(days, b.Due.High)
	}
	return days
}

// areDays reports whether a list has a day for each bill on which it can be paid.
func (d discounted) areDays(days []int) bool {
	if len(days) != len(d.Bills) {
		return false
	}
	for i, b := range d.Bills {
		if !within(days[i], b.Due.Low, b.Due.High) {
			return false
		}
	}
	return true
}

// betters reports whether less is lost with a set than with another one, or as much with fewer bills.
func (d discounted) betters(other discounted) bool {
	_, a := d.brought()
	_, b := other.brought()
	if a != b {
		return a < b
	}
	return bits.OnesCount(uint(d.set)) < bits.OnesCount(uint(other.set))
}

// enough yields the sets of bills that are enough, in increasing order.
func enough(b api.MarketBook) iter.Seq[discounted] {
	return func(yield func(discounted) bool) {
		for set := range 1 << len(b.Bills) {
			d := discounted{b, set}
			if _, is := d.short(d.latest()); !is && !yield(d) {
				return
			}
		}
	}
}

// Short returns the first day on which money is short in some truth.
func Short(b api.MarketBook, set int) (int, api.Errno) {
	d, e := discountedOf(b, set)
	if e != api.OK {
		return 0, e
	}
	day, is := d.short(d.latest())
	if !is {
		return 0, api.ErrNone
	}
	return day, api.OK
}

// Paid reports whether money is short on no day, if bills are paid on some days.
func Paid(b api.MarketBook, set int, days []int) (bool, api.Errno) {
	d, e := discountedOf(b, set)
	if e != api.OK || !d.areDays(days) {
		return false, api.ErrArg
	}
	_, is := d.short(days)
	return !is, api.OK
}

// Bills returns the best set of bills, and what is lost with it.
func Bills(b api.MarketBook) (int, int, api.Errno) {
	if !isBook(b) {
		return 0, 0, api.ErrArg
	}
	found, some := best(enough(b), discounted.betters)
	if !some {
		return 0, 0, api.ErrNone
	}
	_, lost := found.brought()
	return found.set, lost, api.OK
}
