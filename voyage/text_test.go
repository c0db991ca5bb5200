package voyage_test

import (
	"math/rand"
	"strconv"
	"strings"
	"testing"

	"bathyal/api"
	"bathyal/voyage"
)

// The text of the chapter, and its lines before the end.
const (
	linesT = "orders 1\non 7 at 2 wind 0 water 4 sail 2\n"
	textT  = linesT + "end 098\n"
)

// checked returns lines with the line end that belongs to them.
func checked(lines string) string {
	sum, place := 0, 0
	for _, b := range []byte(lines) {
		place++
		if b == '\n' {
			place = 0
		}
		sum += place * int(b)
	}
	check := strconv.Itoa(sum % 127)
	return lines + "end " + strings.Repeat("0", 3-len(check)) + check + "\n"
}

// P7.8
func TestPrint(t *testing.T) {
	for i, x := range []struct {
		o    []api.VoyageOrder
		want string
	}{
		{orders(order(stateT(), 2)), textT}, {nil, "orders 0\nend 117\n"},
		{ordersS(), checked("orders 10\non 2 at 1 wind 0 water 4 stay\non 3 at 1 wind 0 water 3 stay\non 3 at 1 wind 1 water 3 stay\non 4 at 1 wind 0 water 2 stay\non 4 at 1 wind 1 water 2 stay\non 5 at 1 wind 0 water 1 sail 1\non 5 at 1 wind 1 water 1 sail 1\non 6 at 2 wind 0 water 4 sail 2\non 6 at 2 wind 1 water 4 stay\non 7 at 2 wind 0 water 4 sail 2\n")},
		// the least and the greatest numbers
		{orders(order(at(1, 0, 0, 0), -1), order(at(1, 0, 0, 1), 0), order(at(1, 0, 1, 0), 7), order(at(2, 0, 0, 0), -1), order(at(3, 20, 2, 8), 7)), checked("orders 5\non 0 at 1 wind 0 water 0 stay\non 0 at 1 wind 0 water 1 sail 0\non 0 at 1 wind 1 water 0 sail 7\non 0 at 2 wind 0 water 0 stay\non 20 at 3 wind 2 water 8 sail 7\n")},
	} {
		if got, e := voyage.Print(x.o); e != api.OK || got != x.want {
			t.Errorf("%d %q %v", i, got, e)
		}
		if o, e := voyage.Read(x.want); e != api.OK || !equal(o, x.o) {
			t.Errorf("%d %v %v", i, o, e)
		}
	}
}

// P7.8
func TestPrintErrors(t *testing.T) {
	bad := [][]api.VoyageOrder{
		orders(order(stateS(), 0), order(stateS(), 0)), orders(order(stateS(), 0), order(stateS(), 1)), orders(order(stateT(), 2), order(stateS(), 0)), orders(order(at(2, 2, 0, 4), -1), order(at(1, 2, 1, 4), -1)), orders(order(at(1, 2, 1, 3), -1), order(at(1, 2, 0, 4), -1)), orders(order(at(1, 2, 0, 4), -1), order(at(1, 2, 0, 3), -1)), orders(order(at(1, 3, 0, 0), -1), order(at(1, 2, 2, 8), -1)),
		lastOrders(api.VoyageOrders + 1), lastOrders(100),
	}
	add := func(o api.VoyageOrder) {
		bad = append(bad, orders(o), orders(order(at(1, 0, 0, 0), 0), o), orders(o, order(at(3, 20, 2, 8), 0)))
	}
	for _, n := range badNumbers(1, api.VoyagePorts-1) {
		add(order(at(n, 2, 0, 4), 0))
	}
	for _, n := range badNumbers(0, api.VoyageDays) {
		add(order(at(1, n, 0, 4), 0))
	}
	for _, n := range badNumbers(0, api.VoyageWinds-1) {
		add(order(at(1, 2, n, 4), 0))
	}
	for _, n := range badNumbers(0, api.VoyageCask) {
		add(order(at(1, 2, 0, n), 0))
	}
	for _, n := range badNumbers(-1, api.VoyagePassages-1) {
		add(order(at(1, 2, 0, 4), n))
	}
	for i, o := range bad {
		if got, e := voyage.Print(o); e != api.ErrArg || got != "" {
			t.Errorf("%d %v %q %v", i, o, got, e)
		}
	}
}

// lastOrders returns so many orders, the lines of which are long.
func lastOrders(many int) []api.VoyageOrder {
	var o []api.VoyageOrder
	for i := range many {
		o = append(o, order(at(1+i/8%3, 10+i/24, 2, 1+i%8), 7))
	}
	return o
}

// anyOrders returns orders, be they of a chart or not.
func anyOrders(r *rand.Rand) []api.VoyageOrder {
	met := map[api.VoyageState]bool{}
	var o []api.VoyageOrder
	most := r.Intn(5)
	if r.Intn(5) == 0 {
		most = api.VoyageOrders
	}
	for len(o) < most {
		s := at(anyOf(r, 1, api.VoyagePorts-1), anyOf(r, 0, api.VoyageDays), anyOf(r, 0, api.VoyageWinds-1), anyOf(r, 0, api.VoyageCask))
		if !met[s] {
			met[s] = true
			o = append(o, order(s, anyOf(r, -1, api.VoyagePassages-1)))
		}
	}
	return sorted(o)
}

// P7.8, P0.11: what was written is read as what was written
func TestReadOfWritten(t *testing.T) {
	r := source(13)
	checks := map[string]bool{}
	for range 4000 {
		o := anyOrders(r)
		text, e := voyage.Print(o)
		at := strings.Index(text, "end")
		if e != api.OK || text != checked(text[:at]) {
			t.Fatalf("%v %q %v", o, text, e)
		}
		if again, e := voyage.Read(text); e != api.OK || !equal(again, o) {
			t.Fatalf("%q %v %v", text, again, e)
		}
		checks[text[at:]] = true
	}
	if len(checks) != 127 {
		t.Error(len(checks))
	}
	text, e := voyage.Print(lastOrders(api.VoyageOrders))
	if again, f := voyage.Read(text); e != api.OK || f != api.OK || !equal(again, lastOrders(api.VoyageOrders)) {
		t.Error(text, e, f)
	}
}

// P7.8, P0.11: best orders of any chart are read as what was written
func TestReadOfBest(t *testing.T) {
	r := source(14)
	met := map[bool]int{}
	for range 500 {
		c := anyChart(r, anyOf(r, 3, api.VoyageDays), api.VoyagePassages)
		o, e := voyage.Orders(c, anyState(r, c))
		if e != api.OK {
			continue
		}
		text, e := voyage.Print(o)
		if again, f := voyage.Read(text); e != api.OK || f != api.OK || !equal(again, o) {
			t.Fatal(o, text, e, again, f)
		}
		met[len(o) > 0]++
	}
	wantAll(t, met, true)
}

// P7.8: a digit that was changed is noticed
func TestReadOfChanged(t *testing.T) {
	r := source(15)
	for range 40 {
		text, _ := voyage.Print(anyOrders(r))
		for i := range len(text) {
			if text[i] < '0' || text[i] > '9' {
				continue
			}
			for digit := range 10 {
				changed := text[:i] + strconv.Itoa(digit) + text[i+1:]
				if o, e := voyage.Read(changed); changed != text && (e != api.ErrText || len(o) > 0) {
					t.Fatalf("%q %v %v", changed, o, e)
				}
			}
		}
	}
}

// P7.8: and so is any other byte
func TestReadOfOtherBytes(t *testing.T) {
	for many := range 4 {
		text, _ := voyage.Print(lastOrders(many))
		for i := range len(text) {
			for b := range 256 {
				changed := text[:i] + string([]byte{byte(b)}) + text[i+1:]
				if o, e := voyage.Read(changed); changed != text && (e != api.ErrText || len(o) > 0) {
					t.Fatalf("%q %v %v", changed, o, e)
				}
			}
		}
	}
}

// P7.8: a text that is read is the one that is written, also if there is a byte more or less
func TestReadOfOthers(t *testing.T) {
	r := source(16)
	met := map[api.Errno]int{}
	for range 4000 {
		text, _ := voyage.Print(lastOrders(r.Intn(4)))
		lines := text[:strings.Index(text, "end")]
		i := r.Intn(len(lines))
		digit := strconv.Itoa(r.Intn(10))
		for _, changed := range []string{lines[:i] + lines[i+1:], lines[:i] + digit + lines[i:], lines[:i] + digit + lines[i+1:], lines[:i] + " " + lines[i:]} {
			o, e := voyage.Read(checked(changed))
			if again, f := voyage.Print(o); e == api.OK && (f != api.OK || again != checked(changed)) {
				t.Fatalf("%q %v %v", changed, o, e)
			}
			met[e]++
		}
	}
	wantAll(t, met, api.OK, api.ErrText, api.ErrArg)
}

// P7.8
func TestReadErrors(t *testing.T) {
	const line = "on 7 at 2 wind 0 water 4 sail 2"
	replaced := func(old, new string) string {
		if !strings.Contains(linesT, old) {
			t.Error(old)
		}
		return checked(strings.Replace(linesT, old, new, 1))
	}
	// other returns the text with another line of an order
	other := func(other string) string { return replaced(line, other) }
	// many returns a text with so many lines of orders, in their order
	many := func(many int) string {
		lines := "orders " + strconv.Itoa(many) + "\n"
		for _, o := range lastOrders(many) {
			lines += "on " + strconv.Itoa(o.State.Day) + " at " + strconv.Itoa(o.State.Port) + " wind 2 water " + strconv.Itoa(o.State.Water) + " stay\n"
		}
		return checked(lines)
	}
	for i, x := range []struct {
		text string
		want api.Errno
	}{
		{textT, api.OK}, {other(line), api.OK}, {many(0), api.OK}, {many(1), api.OK}, {many(9), api.OK}, {many(10), api.OK}, {many(60), api.OK}, {many(61), api.ErrArg}, {many(79), api.ErrArg}, {many(81), api.ErrLong}, {many(101), api.ErrLong},
		{strings.Repeat("x", api.VoyageText+1), api.ErrLong}, {strings.Repeat("x", api.VoyageText), api.ErrText}, {strings.Repeat("\n", api.VoyageText), api.ErrText}, {strings.Repeat("\n", api.VoyageText+1), api.ErrLong}, {textT + strings.Repeat("\n", api.VoyageText-len(textT)), api.ErrText}, {textT + strings.Repeat("\n", api.VoyageText-len(textT)+1), api.ErrLong},
		{"", api.ErrText}, {"\n", api.ErrText}, {"\n\n", api.ErrText}, {"end 000\n", api.ErrText}, {"orders\nend 000\n", api.ErrText}, {checked(""), api.ErrText}, {checked("orders\n"), api.ErrText}, {linesT, api.ErrText}, {textT[1:], api.ErrText}, {textT + "\n", api.ErrText}, {"\n" + textT, api.ErrText}, {strings.TrimSuffix(textT, "\n"), api.ErrText}, {textT + textT, api.ErrText}, {textT + "x", api.ErrText}, {textT + " ", api.ErrText}, {" " + textT, api.ErrText}, {strings.ReplaceAll(textT, "\n", "\r\n"), api.ErrText}, {strings.ReplaceAll(textT, "\n", "\n\n"), api.ErrText}, {strings.ToUpper(textT), api.ErrText}, {"\ufeff" + textT, api.ErrText},
		// other numbers of orders, and lines in another order
		{replaced("orders 1", "orders 2"), api.ErrText}, {replaced("orders 1", "orders 0"), api.ErrText}, {replaced("orders 1", "orders 01"), api.ErrText}, {replaced("orders 1", "orders +1"), api.ErrText}, {replaced("orders 1", "orders -1"), api.ErrText}, {replaced("orders 1", "orders  1"), api.ErrText}, {replaced("orders 1", "orders 1 "), api.ErrText}, {replaced("orders 1", "orders 1 1"), api.ErrText}, {replaced("orders 1", "orders1"), api.ErrText}, {replaced("orders 1", "orders x"), api.ErrText}, {replaced("orders 1", "order 1"), api.ErrText}, {replaced("orders 1", "Orders 1"), api.ErrText}, {replaced("orders 1\n", ""), api.ErrText}, {replaced("orders 1", "orders 18446744073709551617"), api.ErrText},
		{checked(linesT + line + "\n"), api.ErrText}, {checked("orders 1\n"), api.ErrText}, {checked(line + "\norders 1\n"), api.ErrText}, {other("\n" + line), api.ErrText}, {other("other\n" + line), api.ErrText}, {textT + line + "\n", api.ErrText}, {other("end 000\n" + line), api.ErrText},
		// words and blanks of a line
		{other("on"), api.ErrText}, {other(line + " "), api.ErrText}, {other(" " + line), api.ErrText}, {other(line + " 2"), api.ErrText}, {other("on 7 at 2 wind 0 water 4 sail"), api.ErrText}, {other("on 7 at 2 wind 0 water 4 sail "), api.ErrText}, {other("on 7 at 2 wind 0 water 4"), api.ErrText}, {other("on 7 at 2 wind 0 water 4 "), api.ErrText}, {other("on 7 at 2 wind 0 water 4 stay "), api.ErrText}, {other("on 7 at 2 wind 0 water 4 stay 2"), api.ErrText}, {other("on 7 at 2 wind 0 water 4 2"), api.ErrText}, {other("on 7 at 2 wind 0 water 4 stays"), api.ErrText}, {other("on 7 at 2 wind 0 water 4 Stay"), api.ErrText}, {other("on 7 at 2 wind 0 water 4 sails 2"), api.ErrText}, {other("on 7 at 2 wind 0 water 4 sail -1"), api.ErrText}, {other("on 7 at 2 wind 0 water 4 sail stay"), api.ErrText},
		{other("on 7 at 2 wind 0 waters 4 sail 2"), api.ErrText}, {other("on 7 at 2 winds 0 water 4 sail 2"), api.ErrText}, {other("on 7 at 2 water 4 wind 0 sail 2"), api.ErrText}, {other("at 7 on 2 wind 0 water 4 sail 2"), api.ErrText}, {other("On 7 at 2 wind 0 water 4 sail 2"), api.ErrText}, {other("on 7  at 2 wind 0 water 4 sail 2"), api.ErrText}, {other("on  7 at 2 wind 0 water 4 sail 2"), api.ErrText}, {other("on\t7 at 2 wind 0 water 4 sail 2"), api.ErrText}, {other("7 at 2 wind 0 water 4 sail 2"), api.ErrText},
		// numbers
		{other("on 07 at 2 wind 0 water 4 sail 2"), api.ErrText}, {other("on 7 at 02 wind 0 water 4 sail 2"), api.ErrText}, {other("on 7 at 2 wind 00 water 4 sail 2"), api.ErrText}, {other("on 7 at 2 wind 0 water 04 sail 2"), api.ErrText}, {other("on 7 at 2 wind 0 water 4 sail 02"), api.ErrText}, {other("on +7 at 2 wind 0 water 4 sail 2"), api.ErrText}, {other("on -1 at 2 wind 0 water 4 sail 2"), api.ErrText}, {other("on x at 2 wind 0 water 4 sail 2"), api.ErrText}, {other("on / at 2 wind 0 water 4 sail 2"), api.ErrText}, {other("on : at 2 wind 0 water 4 sail 2"), api.ErrText}, {other("on \u0663 at 2 wind 0 water 4 sail 2"), api.ErrText}, {other("on \xff at 2 wind 0 water 4 sail 2"), api.ErrText}, {other("on 7. at 2 wind 0 water 4 sail 2"), api.ErrText}, {other("on  at 2 wind 0 water 4 sail 2"), api.ErrText},
		{other("on 100 at 2 wind 0 water 4 sail 2"), api.ErrText}, {other("on 7 at 100 wind 0 water 4 sail 2"), api.ErrText}, {other("on 7 at 2 wind 100 water 4 sail 2"), api.ErrText}, {other("on 7 at 2 wind 0 water 100 sail 2"), api.ErrText}, {other("on 7 at 2 wind 0 water 4 sail 100"), api.ErrText}, {other("on 18446744073709551623 at 2 wind 0 water 4 sail 2"), api.ErrText},
		// the check
		{strings.Replace(textT, "098", "099", 1), api.ErrText}, {strings.Replace(textT, "098", "097", 1), api.ErrText}, {strings.Replace(textT, "098", "98", 1), api.ErrText}, {strings.Replace(textT, "098", "0098", 1), api.ErrText}, {strings.Replace(textT, "098", "225", 1), api.ErrText}, {strings.Replace(textT, "098", "", 1), api.ErrText}, {strings.Replace(textT, " 098", "", 1), api.ErrText}, {strings.Replace(textT, "098", "09x", 1), api.ErrText}, {strings.Replace(textT, "098", "098 ", 1), api.ErrText}, {strings.Replace(textT, "098", "098 0", 1), api.ErrText}, {strings.Replace(textT, "end ", "end  ", 1), api.ErrText}, {strings.Replace(textT, "end", "End", 1), api.ErrText}, {strings.Replace(textT, "end ", "end", 1), api.ErrText}, {"orders 0\nend 000\n", api.ErrText}, {"orders 0\nend 244\n", api.ErrText},
		// the form is right, and the orders are not as defined
		{"orders 1\non 7 at 5 wind 0 water 4 sail 2\nend 125\n", api.ErrArg}, {other("on 7 at 0 wind 0 water 4 sail 2"), api.ErrArg}, {other("on 7 at 4 wind 0 water 4 sail 2"), api.ErrArg}, {other("on 7 at 99 wind 0 water 4 sail 2"), api.ErrArg}, {other("on 21 at 2 wind 0 water 4 sail 2"), api.ErrArg}, {other("on 99 at 2 wind 0 water 4 sail 2"), api.ErrArg}, {other("on 7 at 2 wind 3 water 4 sail 2"), api.ErrArg}, {other("on 7 at 2 wind 0 water 9 sail 2"), api.ErrArg}, {other("on 7 at 2 wind 0 water 4 sail 8"), api.ErrArg}, {other("on 7 at 2 wind 0 water 4 sail 99"), api.ErrArg}, {replaced("orders 1\n", "orders 2\n"+line+"\n"), api.ErrArg}, {replaced("orders 1\n", "orders 2\non 8 at 2 wind 0 water 4 stay\n"), api.ErrArg}, {replaced("orders 1\n", "orders 2\non 7 at 2 wind 0 water 5 stay\n"), api.ErrArg}, {replaced("orders 1\n", "orders 2\non 7 at 2 wind 1 water 0 stay\n"), api.ErrArg}, {replaced("orders 1\n", "orders 2\non 7 at 3 wind 0 water 0 stay\n"), api.ErrArg},
		{other("on 20 at 3 wind 2 water 8 sail 7"), api.OK}, {other("on 0 at 1 wind 0 water 0 sail 0"), api.OK}, {other("on 7 at 2 wind 0 water 4 stay"), api.OK}, {replaced("orders 1\n", "orders 2\non 7 at 2 wind 0 water 3 stay\n"), api.OK}, {replaced("orders 1\n", "orders 2\non 6 at 3 wind 2 water 8 stay\n"), api.OK}, {replaced("orders 1\n", "orders 2\non 7 at 1 wind 2 water 8 stay\n"), api.OK},
	} {
		o, e := voyage.Read(x.text)
		if e != x.want || e != api.OK && len(o) > 0 {
			t.Errorf("%d %q %v %v", i, x.text, o, e)
		}
	}
}
