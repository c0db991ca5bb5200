package loft_test

import (
	"strconv"
	"strings"
	"testing"

	"bathyal/api"
	"bathyal/loft"
)

// The book of the chapter, and its lines before the end.
const (
	linesL = "loft 4\nstring 0 30 40 0\nstring 0 20 30 0\nstring 0 50 60 1\nstring 1 10 20 2\n"
	textL  = linesL + "end 012\n"
)

// checked returns lines with the line end that belongs to them.
func checked(lines string) string {
	sum := 0
	for i, line := range strings.Split(lines, "\n") {
		place := 0
		for _, word := range strings.Split(line, " ") {
			if n, err := strconv.Atoi(word); err == nil {
				place++
				sum += (i + 1) * place * n
			}
		}
	}
	check := strconv.Itoa(sum % 101)
	return lines + "end " + strings.Repeat("0", 3-len(check)) + check + "\n"
}

// P6.8
func TestPrint(t *testing.T) {
	for i, x := range []struct {
		items   []api.LoftString
		packing []int
		want    string
	}{
		{itemsL(), l(0, 0, 1, 2), textL}, {nil, nil, "loft 0\nend 000\n"}, {[]api.LoftString{item(4, 9999, 10000)}, l(0), "loft 1\nstring 4 9999 10000 0\nend 015\n"},
		{itemsL(), l(0, 0, 0, 0), checked("loft 4\nstring 0 30 40 0\nstring 0 20 30 0\nstring 0 50 60 0\nstring 1 10 20 0\n")},
		{[]api.LoftString{item(0, 10000, 10000), item(1, 0, 10000), item(2, 0, 0), item(3, 7, 8), item(4, 5, 5), item(0, 1, 2), item(1, 99, 100)}, l(0, 1, 2, 3, 4, 5, 6), checked("loft 7\nstring 0 10000 10000 0\nstring 1 0 10000 1\nstring 2 0 0 2\nstring 3 7 8 3\nstring 4 5 5 4\nstring 0 1 2 5\nstring 1 99 100 6\n")},
	} {
		if got, e := loft.Print(x.items, x.packing); e != api.OK || got != x.want {
			t.Errorf("%d %q %v", i, got, e)
		}
		if items, packing, e := loft.Read(x.want); e != api.OK || !equal(items, x.items) || !equal(packing, x.packing) {
			t.Errorf("%d %v %v %v", i, items, packing, e)
		}
	}
}

// isNothing reports whether what was read is nothing.
func isNothing(items []api.LoftString, packing []int) bool {
	return len(items) == 0 && len(packing) == 0
}

// P6.8, P0.11: what was written is read as what was written
func TestReadOfWritten(t *testing.T) {
	r := source(16)
	checks := map[string]bool{}
	for range 4000 {
		items := anyItems(r, r.Intn(api.LoftItems+1))
		packing := anyPacking(r, len(items))
		text, e := loft.Print(items, packing)
		at := strings.Index(text, "end")
		if e != api.OK || text != checked(text[:at]) {
			t.Fatalf("%v %v %q %v", items, packing, text, e)
		}
		if a, p, e := loft.Read(text); e != api.OK || !equal(a, items) || !equal(p, packing) {
			t.Fatalf("%q %v %v %v", text, a, p, e)
		}
		checks[text[at:]] = true
	}
	if len(checks) != 101 {
		t.Error(len(checks))
	}
}

// P6.8: a digit that was changed is noticed
func TestReadOfChanged(t *testing.T) {
	r := source(17)
	for range 300 {
		items := anyItems(r, r.Intn(api.LoftItems+1))
		text, _ := loft.Print(items, anyPacking(r, len(items)))
		for i := range len(text) {
			if text[i] < '0' || text[i] > '9' {
				continue
			}
			for digit := range 10 {
				changed := text[:i] + strconv.Itoa(digit) + text[i+1:]
				if a, p, e := loft.Read(changed); changed != text && (e != api.ErrText || !isNothing(a, p)) {
					t.Fatalf("%q %v %v %v", changed, a, p, e)
				}
			}
		}
	}
}

// P6.8: and so is any other byte
func TestReadOfOtherBytes(t *testing.T) {
	r := source(18)
	for many := range api.LoftItems + 1 {
		text, _ := loft.Print(anyItems(r, many), anyPacking(r, many))
		for i := range len(text) {
			for b := range 256 {
				changed := text[:i] + string([]byte{byte(b)}) + text[i+1:]
				if a, p, e := loft.Read(changed); changed != text && (e != api.ErrText || !isNothing(a, p)) {
					t.Fatalf("%q %v %v %v", changed, a, p, e)
				}
			}
		}
	}
}

// P6.8: a text that is read is the one that is written, also if there is a byte more or less
func TestReadOfOthers(t *testing.T) {
	r := source(19)
	met := map[api.Errno]int{}
	for range 1500 {
		many := r.Intn(api.LoftItems + 1)
		text, _ := loft.Print(anyItems(r, many), anyPacking(r, many))
		lines := text[:strings.Index(text, "end")]
		i := r.Intn(len(lines))
		for _, changed := range []string{lines[:i] + lines[i+1:], lines[:i] + strconv.Itoa(r.Intn(10)) + lines[i:], lines[:i] + " " + lines[i:]} {
			a, p, e := loft.Read(checked(changed))
			if again, f := loft.Print(a, p); e == api.OK && (f != api.OK || again != checked(changed)) {
				t.Fatalf("%q %v %v %v", changed, a, p, e)
			}
			met[e]++
		}
	}
	wantAll(t, met, api.OK, api.ErrText, api.ErrArg)
}

// P6.8
func TestReadErrors(t *testing.T) {
	replaced := func(old, new string) string { return checked(strings.Replace(linesL, old, new, 1)) }
	// of returns a book of equal strings, of as many as it says
	of := func(many int, line string) string {
		return checked("loft " + strconv.Itoa(many) + "\n" + strings.Repeat(line+"\n", many))
	}
	const long, short = "string 0 10000 10000 0", "string 0 0 0 0"
	if checked(linesL) != textL {
		t.Fatal(checked(linesL))
	}
	for i, x := range []struct {
		text string
		want api.Errno
	}{
		{textL, api.OK}, {of(0, ""), api.OK}, {of(1, long), api.OK}, {of(7, long), api.OK}, {of(7, short), api.OK},
		{strings.Repeat("x", api.LoftText+1), api.ErrLong}, {strings.Repeat("x", api.LoftText), api.ErrText}, {strings.Repeat("\n", api.LoftText), api.ErrText}, {strings.Repeat("\n", api.LoftText+1), api.ErrLong}, {of(13, long), api.ErrLong}, {of(12, long), api.ErrArg}, {of(20, short), api.ErrLong}, {of(18, short), api.ErrArg}, {textL + strings.Repeat("\n", api.LoftText-len(textL)), api.ErrText}, {textL + strings.Repeat("\n", api.LoftText-len(textL)+1), api.ErrLong},
		{"", api.ErrText}, {"\n", api.ErrText}, {"end 000\n", api.ErrText}, {"loft\nend 000\n", api.ErrText}, {linesL, api.ErrText}, {textL[1:], api.ErrText}, {textL + "\n", api.ErrText}, {"\n" + textL, api.ErrText}, {strings.TrimSuffix(textL, "\n"), api.ErrText}, {textL + textL, api.ErrText}, {textL + "x", api.ErrText}, {textL + " ", api.ErrText}, {" " + textL, api.ErrText}, {strings.ReplaceAll(textL, "\n", "\r\n"), api.ErrText}, {strings.ReplaceAll(textL, "\n", "\n\n"), api.ErrText}, {strings.ToUpper(textL), api.ErrText}, {"\ufeff" + textL, api.ErrText},
		// other numbers of strings, and lines in another order
		{replaced("loft 4", "loft 5"), api.ErrText}, {replaced("loft 4", "loft 3"), api.ErrText}, {replaced("loft 4", "loft 0"), api.ErrText}, {replaced("loft 4", "loft 04"), api.ErrText}, {replaced("loft 4", "loft +4"), api.ErrText}, {replaced("loft 4", "loft -4"), api.ErrText}, {replaced("loft 4", "loft  4"), api.ErrText}, {replaced("loft 4", "loft 4 "), api.ErrText}, {replaced("loft 4", "loft 4 4"), api.ErrText}, {replaced("loft 4", "loft4"), api.ErrText}, {replaced("loft 4", "loft x"), api.ErrText}, {replaced("loft 4", "loft 18446744073709551620"), api.ErrText}, {replaced("loft 4\n", ""), api.ErrText}, {replaced("loft", "Loft"), api.ErrText},
		{checked(linesL + "string 0 0 0 0\n"), api.ErrText}, {replaced("string 1 10 20 2\n", ""), api.ErrText}, {checked("string 0 30 40 0\nloft 1\n"), api.ErrText}, {replaced("string 0 20", "\nstring 0 20"), api.ErrText}, {replaced("string 0 20", "other\nstring 0 20"), api.ErrText}, {replaced("string 0 20", "end 000\nstring 0 20"), api.ErrText}, {checked(linesL) + "string 0 0 0 0\n", api.ErrText},
		// words and blanks of a line string
		{replaced("string 0 30 40 0", "string"), api.ErrText}, {replaced("string 0 30 40 0", "string 0 30 40"), api.ErrText}, {replaced("string 0 30 40 0", "string 0 30 40 "), api.ErrText}, {replaced("string 0 30 40 0", "string 0 30 40 0 "), api.ErrText}, {replaced("string 0 30 40 0", "string 0 30 40 0 0"), api.ErrText}, {replaced("string 0 30 40 0", "string  0 30 40 0"), api.ErrText}, {replaced("string 0 30 40 0", "string 0  30 40 0"), api.ErrText}, {replaced("string 0 30 40 0", "string 0\t30 40 0"), api.ErrText}, {replaced("string 0 30 40 0", " string 0 30 40 0"), api.ErrText}, {replaced("string 0 30 40 0", "strings 0 30 40 0"), api.ErrText}, {replaced("string 0 30 40 0", "String 0 30 40 0"), api.ErrText}, {replaced("string 0 30 40 0", "string 0 30-40 0"), api.ErrText}, {replaced("string 0 30 40 0", "0 30 40 0"), api.ErrText},
		// numbers
		{replaced("0 30 40 0", "00 30 40 0"), api.ErrText}, {replaced("0 30 40 0", "0 030 40 0"), api.ErrText}, {replaced("0 30 40 0", "0 30 040 0"), api.ErrText}, {replaced("0 30 40 0", "0 30 40 00"), api.ErrText}, {replaced("0 30 40 0", "0 +30 40 0"), api.ErrText}, {replaced("0 30 40 0", "-0 30 40 0"), api.ErrText}, {replaced("0 30 40 0", "0 -1 40 0"), api.ErrText}, {replaced("0 30 40 0", "0 3x 40 0"), api.ErrText}, {replaced("0 30 40 0", "0 3/ 40 0"), api.ErrText}, {replaced("0 30 40 0", "0 3: 40 0"), api.ErrText}, {replaced("0 30 40 0", "0 \u0663 40 0"), api.ErrText}, {replaced("0 30 40 0", "0 \xff 40 0"), api.ErrText}, {replaced("0 30 40 0", "0 30. 40 0"), api.ErrText}, {replaced("0 30 40 0", "0 0x1e 40 0"), api.ErrText},
		{replaced("0 30 40 0", "100000 30 40 0"), api.ErrText}, {replaced("0 30 40 0", "0 100000 40 0"), api.ErrText}, {replaced("0 30 40 0", "0 30 100000 0"), api.ErrText}, {replaced("0 30 40 0", "0 30 40 100000"), api.ErrText}, {replaced("0 30 40 0", "0 30 18446744073709551656 0"), api.ErrText}, {replaced("0 30 40 0", "0 30 4294967336 0"), api.ErrText},
		// the check
		{strings.Replace(textL, "012", "013", 1), api.ErrText}, {strings.Replace(textL, "012", "011", 1), api.ErrText}, {strings.Replace(textL, "012", "12", 1), api.ErrText}, {strings.Replace(textL, "012", "0012", 1), api.ErrText}, {strings.Replace(textL, "012", "113", 1), api.ErrText}, {strings.Replace(textL, "012", "", 1), api.ErrText}, {strings.Replace(textL, " 012", "", 1), api.ErrText}, {strings.Replace(textL, "012", "01x", 1), api.ErrText}, {strings.Replace(textL, "012", "012 ", 1), api.ErrText}, {strings.Replace(textL, "012", "012 0", 1), api.ErrText}, {strings.Replace(textL, "end ", "end  ", 1), api.ErrText}, {strings.Replace(textL, "end", "End", 1), api.ErrText}, {strings.Replace(textL, "end ", "end", 1), api.ErrText}, {"loft 0\nend 001\n", api.ErrText}, {"loft 0\nend 101\n", api.ErrText}, {"loft 0\nend 000 \n", api.ErrText}, {strings.Replace(textL, "0 30 40 0", "0 30 39 0", 1), api.ErrText}, {strings.Replace(textL, "0 20 30 0", "0 30 20 0", 1), api.ErrText},
		// the form is right, and the strings or the packing are not as defined
		{of(8, short), api.ErrArg}, {of(9, short), api.ErrArg}, {of(10, short), api.ErrArg}, {"loft 1\nstring 5 0 0 0\nend 011\n", api.ErrArg}, {"loft 1\nstring 0 0 0 1\nend 009\n", api.ErrArg}, {"loft 1\nstring 0 0 0 1\nend 010\n", api.ErrText},
		{replaced("0 30 40 0", "5 30 40 0"), api.ErrArg}, {replaced("0 30 40 0", "99999 30 40 0"), api.ErrArg}, {replaced("0 30 40 0", "0 41 40 0"), api.ErrArg}, {replaced("0 30 40 0", "0 30 10001 0"), api.ErrArg}, {replaced("0 30 40 0", "0 99999 99999 0"), api.ErrArg}, {replaced("0 30 40 0", "0 30 40 1"), api.ErrArg}, {replaced("0 30 40 0", "0 30 40 99999"), api.ErrArg}, {replaced("0 20 30 0", "0 20 30 2"), api.ErrArg}, {replaced("1 10 20 2", "1 10 20 3"), api.ErrArg},
		{replaced("0 30 40 0", "4 30 40 0"), api.OK}, {replaced("0 30 40 0", "0 40 40 0"), api.OK}, {replaced("0 30 40 0", "0 0 10000 0"), api.OK}, {replaced("0 20 30 0", "0 20 30 1"), api.OK}, {replaced("1 10 20 2", "1 10 20 0"), api.OK},
	} {
		a, p, e := loft.Read(x.text)
		if e != x.want || e != api.OK && !isNothing(a, p) {
			t.Errorf("%d %q %v %v %v", i, x.text, a, p, e)
		}
	}
}
