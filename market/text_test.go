package market_test

import (
	"strconv"
	"strings"
	"testing"

	"bathyal/api"
	"bathyal/market"
)

// The note of the chapter, and its lines before the end.
const (
	linesA = "sale 2 2\nmart 3 0\nmart 0 2\n"
	textA  = linesA + "end 24\n"
)

// checked returns lines with the line end that belongs to them.
func checked(lines string) string {
	sum := 0
	for i, line := range strings.Split(lines, "\n") {
		place := 0
		for _, word := range strings.Split(line, " ") {
			if n, err := strconv.Atoi(word); err == nil {
				place++
				sum += (i + 1) * place * n
			}
		}
	}
	check := strconv.Itoa(sum % 97)
	return lines + "end " + strings.Repeat("0", 2-len(check)) + check + "\n"
}

// storeOf returns a store of so many marts and grades that takes all it can.
func storeOf(marts, grades int) api.MarketStore {
	var s api.MarketStore
	for range grades {
		s.Stock = append(s.Stock, api.MarketBales)
	}
	for range marts {
		s.Marts = append(s.Marts, mart(0, 0, api.MarketTakes, make([]api.Span, grades)...))
	}
	return s
}

// P8.8
func TestPrint(t *testing.T) {
	for i, x := range []struct {
		s    api.MarketStore
		sale [][]int
		want string
	}{
		{storeS(), saleA(), textA}, {storeS(), noSale(), "sale 2 2\nmart 0 0\nmart 0 0\nend 06\n"}, {storeS(), saleD(), "sale 2 2\nmart 0 0\nmart 3 1\nend 21\n"}, {storeOf(1, 1), ll(l(0)), "sale 1 1\nmart 0\nend 03\n"}, {storeOf(1, 1), ll(l(6)), "sale 1 1\nmart 6\nend 15\n"}, {storeOf(1, 2), ll(l(6, 6)), "sale 1 2\nmart 6 6\nend 41\n"},
		{storeOf(3, 1), ll(l(1), l(2), l(3)), "sale 3 1\nmart 1\nmart 2\nmart 3\nend 25\n"}, {storeOf(3, 2), ll(l(1, 2), l(0, 4), l(5, 0)), "sale 3 2\nmart 1 2\nmart 0 4\nmart 5 0\nend 61\n"}, {storeOf(3, 2), ll(l(0, 0), l(0, 0), l(6, 6)), "sale 3 2\nmart 0 0\nmart 0 0\nmart 6 6\nend 79\n"}, {storeOf(2, 2), ll(l(6, 0), l(0, 6)), checked("sale 2 2\nmart 6 0\nmart 0 6\n")},
	} {
		if got, e := market.Print(x.s, x.sale); e != api.OK || got != x.want {
			t.Errorf("%d %q %v", i, got, e)
		}
		if sale, e := market.Read(x.s, x.want); e != api.OK || !equal(sale, x.sale) {
			t.Errorf("%d %v %v", i, sale, e)
		}
	}
}

// P8.8, P0.11: what was written is read as what was written
func TestReadOfWritten(t *testing.T) {
	r := source(20)
	checks := map[string]bool{}
	for range 8000 {
		s := anyStore(r, api.MarketBales)
		sale := anySale(r, s)
		text, e := market.Print(s, sale)
		at := strings.Index(text, "end")
		if e != api.OK || text != checked(text[:at]) {
			t.Fatalf("%v %v %q %v", s, sale, text, e)
		}
		if a, e := market.Read(s, text); e != api.OK || !equal(a, sale) {
			t.Fatalf("%v %q %v %v", s, text, a, e)
		}
		checks[text[at:]] = true
	}
	if len(checks) < 60 {
		t.Error(len(checks))
	}
}

// P8.8: a digit that was changed is noticed, and so is any other byte
func TestReadOfChanged(t *testing.T) {
	r := source(21)
	for range 150 {
		s := anyStore(r, api.MarketBales)
		text, _ := market.Print(s, anySale(r, s))
		for i := range len(text) {
			for b := range 256 {
				changed := text[:i] + string([]byte{byte(b)}) + text[i+1:]
				if a, e := market.Read(s, changed); changed != text && (e != api.ErrText || len(a) != 0) {
					t.Fatalf("%q %v %v", changed, a, e)
				}
			}
		}
	}
}

// P8.8: a text that is read is the one that is written, also if there is a byte more or less
func TestReadOfOthers(t *testing.T) {
	r := source(22)
	met := map[api.Errno]int{}
	for range 4000 {
		s := anyStore(r, api.MarketBales)
		text, _ := market.Print(s, anySale(r, s))
		lines := text[:strings.Index(text, "end")]
		i := r.Intn(len(lines))
		digit := strconv.Itoa(r.Intn(10))
		for _, changed := range []string{lines[:i] + lines[i+1:], lines[:i] + digit + lines[i:], lines[:i] + " " + lines[i:], lines[:i] + digit + lines[i+1:], lines + "mart 0\n"} {
			a, e := market.Read(s, checked(changed))
			if again, f := market.Print(s, a); e == api.OK && (f != api.OK || again != checked(changed)) || e != api.OK && len(a) != 0 {
				t.Fatalf("%q %v %v", changed, a, e)
			}
			met[e]++
		}
	}
	wantAll(t, met, api.OK, api.ErrText, api.ErrArg)
}

// replaced returns the note of the chapter with something else in its lines, and the check that belongs to them.
func replaced(old, new string) string { return checked(strings.Replace(linesA, old, new, 1)) }

// P8.8: the form of a text
func TestReadForms(t *testing.T) {
	if checked(linesA) != textA {
		t.Fatal(checked(linesA))
	}
	end := func(old, new string) string { return strings.Replace(textA, old, new, 1) }
	for i, text := range []string{
		"", "\n", "\n\n", "\n\n\n", "\n\n\n\n", " ", "sale", "end", "sale 2 2", "mart", "end 24\n", "sale 2 2\nend 06\n", "mart 3 0\nmart 0 2\nend 24\n", textA[1:], textA + "\n", "\n" + textA, textA + " ", textA + "\x00", textA[:len(textA)-1], textA + textA, " " + textA, textA[:len(textA)-1] + "\r\n", strings.ReplaceAll(textA, "\n", "\r\n"), linesA, strings.ToUpper(textA), strings.Repeat("x", api.MarketText), strings.Repeat("\n", api.MarketText), strings.Repeat(" ", api.MarketText),
		// how many lines and numbers there are
		replaced("2 2", "2 1"), replaced("2 2", "2 3"), replaced("2 2", "1 2"), replaced("2 2", "3 2"), replaced("2 2", "2"), replaced("2 2", "2 2 0"), replaced("2 2", ""), replaced("3 0", "3"), replaced("0 2", "0"), replaced("0 2", "0 2 0"), replaced("3 0", "3 0 0"), replaced("mart 3 0", "mart"), replaced("mart 0 2", "mart"), replaced("mart 0 2\n", ""), replaced("mart 0 2\n", "\n"), linesA + "mart 0 0\nend 24\n", checked(linesA + "mart 0 0\n"), checked("sale 2 1\nmart 3\nmart 0 2\n"), checked("sale 2 2\nmart 3 0\nmart 0\n"),
		"sale 0 0\nend 00\n", "sale 0 1\nend 02\n", "sale 0 2\nend 04\n", "sale 1 0\nmart\nend 01\n", "sale 2 0\nmart\nmart\nend 02\n", "sale 1 0\nmart \nend 01\n", "sale 0 0\n\nend 00\n",
		// words and blanks
		replaced("sale", "Sale"), replaced("sale", "mart"), replaced("sale", "sal"), replaced("sale ", "sale"), replaced("sale ", "sale  "), replaced("sale 2 2", "2 2"), replaced("2 2\n", "2 2 \n"), replaced("mart", "sale"), replaced("mart", "Mart"), replaced("mart", "market"), replaced("mart ", "mart  "), replaced("mart ", "mart\t"), replaced("mart ", ""), replaced("mart ", " mart "), replaced("mart ", "mart"), replaced("3 0", "3  0"), replaced("3 0", "3 0 "), replaced("3 0", "3\t0"), replaced("3 0\n", "3 0\n\n"), replaced("3 0\n", "3 0 "), replaced("mart 3 0", "x"), replaced("mart 3 0", "end 24"),
		// numbers
		replaced("3 0", "03 0"), replaced("3 0", "3 00"), replaced("3 0", "3 -0"), replaced("3 0", "+3 0"), replaced("3 0", "-1 0"), replaced("3 0", "3 x"), replaced("3 0", "3 /"), replaced("3 0", "3 :"), replaced("3 0", "\u0663 0"), replaced("3 0", "\xff 0"), replaced("3 0", "3. 0"), replaced("3 0", "0x3 0"), replaced("3 0", "100 0"), replaced("3 0", "3 100"), replaced("3 0", "18446744073709551619 0"), replaced("3 0", "4294967299 0"), replaced("2 2", "02 2"), replaced("2 2", "2 02"), replaced("2 2", "2 002"), replaced("2 2", "2 100"), replaced("2 2", "x 2"), "sale 1 1\nmart 100\nend 09\n",
		// the check
		end("24", "25"), end("24", "23"), end("24", "024"), end("24", "4"), end("24", "2"), end("24", "121"), end("24", ""), end(" 24", ""), end("24", "2x"), end("24", "24 "), end("24", "24 0"), end("24", "+24"), end("end ", "end  "), end("end", "End"), end("end ", "end"), end("end ", "ende "), end("end", "mart"), end("3 0", "2 0"), end("3 0", "0 3"), "sale 1 1\nmart 0\nend 3\n", "sale 1 1\nmart 0\nend 003\n", "sale 1 1\nmart 0\nend 04\n", "sale 1 1\nmart 47\nend 97\n",
	} {
		for _, s := range []api.MarketStore{storeS(), {}, storeOf(3, 2)} {
			if a, e := market.Read(s, text); e != api.ErrText || len(a) != 0 {
				t.Errorf("%d %q %v %v", i, text, a, e)
			}
		}
	}
}

// P8.8: what has the right form
func TestReadErrors(t *testing.T) {
	wide := checked("sale 2 18\nmart" + strings.Repeat(" 0", 18) + "\nmart" + strings.Repeat(" 0", 18) + "\n")
	tall := checked("sale 11 1\n" + strings.Repeat("mart 0\n", 11))
	for i, x := range []struct {
		s    api.MarketStore
		text string
		want api.Errno
	}{
		{storeS(), textA, api.OK}, {storeOf(2, 2), textA, api.OK}, {storeOf(2, 2), replaced("3 0", "6 4"), api.OK}, {storeS(), replaced("3 0", "1 2"), api.ErrArg}, {storeS(), replaced("0 2", "0 0"), api.OK}, {storeOf(1, 1), "sale 1 1\nmart 6\nend 15\n", api.OK},
		// a text that is too long comes before all others, and one that is none before the store
		{storeS(), strings.Repeat("x", api.MarketText+1), api.ErrLong}, {api.MarketStore{}, strings.Repeat("x", api.MarketText+1), api.ErrLong}, {storeS(), textA + strings.Repeat("\n", api.MarketText-len(textA)), api.ErrText}, {storeS(), textA + strings.Repeat("\n", api.MarketText-len(textA)+1), api.ErrLong}, {api.MarketStore{}, textA, api.ErrArg}, {api.MarketStore{}, textA[1:], api.ErrText},
		// a sale of another store, also of one that there cannot be
		{storeOf(1, 2), textA, api.ErrArg}, {storeOf(3, 2), textA, api.ErrArg}, {storeOf(2, 1), textA, api.ErrArg}, {storeOf(1, 1), textA, api.ErrArg}, {storeS(), wide, api.ErrArg}, {storeS(), tall, api.ErrArg}, {storeOf(1, 1), "sale 1 1\nmart 47\nend 00\n", api.ErrArg}, {storeOf(1, 1), "sale 1 1\nmart 7\nend 17\n", api.ErrArg}, {storeOf(1, 1), "sale 1 1\nmart 99\nend 07\n", api.ErrArg}, {storeOf(1, 1), checked("sale 1 1\nmart 10\n"), api.ErrArg},
		// more bales than there are, or than are taken
		{storeS(), "sale 2 2\nmart 4 0\nmart 0 0\nend 14\n", api.ErrArg}, {storeS(), replaced("3 0", "2 2"), api.ErrArg}, {storeS(), replaced("0 2", "3 2"), api.ErrArg}, {storeS(), replaced("0 2", "1 2"), api.ErrArg}, {storeS(), replaced("0 2", "0 3"), api.ErrArg}, {storeOf(2, 2), replaced("0 2", "3 2"), api.OK}, {storeOf(2, 2), replaced("0 2", "4 2"), api.ErrArg},
	} {
		a, e := market.Read(x.s, x.text)
		if e != x.want || e != api.OK && len(a) != 0 {
			t.Errorf("%d %q %v %v", i, x.text, a, e)
		}
	}
}
