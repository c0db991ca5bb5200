package rescue_test

import (
	"slices"
	"strconv"
	"strings"
	"testing"

	"bathyal/api"
	"bathyal/rescue"
)

// The text of the chapter's book b, and its lines before the end.
const (
	linesB = "book 1\nlesson 0 0\n"
	textB  = linesB + "end 039\n"
)

// checked returns lines with the line end that belongs to them.
func checked(lines string) string {
	sum, line, place := 0, 1, 0
	for _, b := range []byte(lines) {
		if b == '\n' {
			line++
			place = 0
			continue
		}
		place++
		sum += line * place * int(b)
	}
	check := strconv.Itoa(sum % 131)
	return lines + "end " + strings.Repeat("0", 3-len(check)) + check + "\n"
}

// P9.8
func TestPrint(t *testing.T) {
	for i, x := range []struct {
		book []api.RescueEntry
		want string
	}{
		// the bytes of "book 0" times their places are 1529, which is 11 times 131 and 88
		{bookB(), textB}, {nil, "book 0\nend 088\n"}, {bookA(), checked("book 5\nlesson 0 0\nlesson 1 2\ndive 20 3 4\npain 5 6\ntest 9 9\n")}, {torn(), checked("book 2\npain 5 6\ntest 4 4\n")},
		// the least and the greatest numbers
		{book(dive(0, 0, 0), dive(40, 60, 60), lesson(57, 60), pain(0, 3), test(60, 60), lesson(60, 60)), checked("book 6\ndive 0 0 0\ndive 40 60 60\nlesson 57 60\npain 0 3\ntest 60 60\nlesson 60 60\n")},
	} {
		if got, e := rescue.Print(x.book); e != api.OK || got != x.want {
			t.Errorf("%d %q %v", i, got, e)
		}
		if b, e := rescue.Read(x.want); e != api.OK || !slices.Equal(b, x.book) {
			t.Errorf("%d %v %v", i, b, e)
		}
	}
	for i, b := range badBooks() {
		if got, e := rescue.Print(b); e != api.ErrArg || got != "" {
			t.Errorf("%d %v %q %v", i, b, got, e)
		}
	}
}

// P9.8, P0.11: what was written is read as what was written
func TestReadOfWritten(t *testing.T) {
	r := source(10)
	checks := map[string]bool{}
	for range 6000 {
		b := anyBook(r)
		if r.Intn(2) == 0 {
			slices.Reverse(b)
		}
		text, e := rescue.Print(b)
		at := strings.Index(text, "end")
		if e != api.OK || text != checked(text[:at]) {
			t.Fatalf("%v %q %v", b, text, e)
		}
		if again, e := rescue.Read(text); e != api.OK || !slices.Equal(again, b) {
			t.Fatalf("%q %v %v", text, again, e)
		}
		checks[text[at:]] = true
	}
	if len(checks) != 131 {
		t.Error(len(checks))
	}
}

// P9.8: the longest text of a book is read
func TestReadOfLongest(t *testing.T) {
	b := slices.Repeat(book(dive(40, 57, 60)), api.RescueEntries)
	text, e := rescue.Print(b)
	if again, f := rescue.Read(text); e != api.OK || f != api.OK || !slices.Equal(again, b) {
		t.Error(text, e, f)
	}
}

// P9.8: a digit that was changed is noticed, and so is any other byte
func TestReadOfChanged(t *testing.T) {
	r := source(11)
	for range 60 {
		text, _ := rescue.Print(anyBook(r))
		for i := range len(text) {
			for b := range 256 {
				changed := text[:i] + string([]byte{byte(b)}) + text[i+1:]
				if again, e := rescue.Read(changed); changed != text && (e != api.ErrText || len(again) != 0) {
					t.Fatalf("%q %v %v", changed, again, e)
				}
			}
		}
	}
}

// P9.8: a text that is read is the one that is written, also if there is a byte more or less
func TestReadOfOthers(t *testing.T) {
	r := source(12)
	met := map[api.Errno]int{}
	for range 6000 {
		text, _ := rescue.Print(anyBook(r))
		lines := text[:strings.Index(text, "end")]
		i := r.Intn(len(lines))
		digit := strconv.Itoa(r.Intn(10))
		for _, changed := range []string{lines[:i] + lines[i+1:], lines[:i] + digit + lines[i:], lines[:i] + " " + lines[i:], lines[:i] + digit + lines[i+1:], lines + "test 0 0\n"} {
			b, e := rescue.Read(checked(changed))
			if again, f := rescue.Print(b); e == api.OK && (f != api.OK || again != checked(changed)) || e != api.OK && len(b) != 0 {
				t.Fatalf("%q %v %v", changed, b, e)
			}
			met[e]++
		}
	}
	wantAll(t, met, api.OK, api.ErrText, api.ErrArg)
}

// replaced returns the text of the chapter with something else in its lines, and the check that belongs to them.
func replaced(old, new string) string { return checked(strings.Replace(linesB, old, new, 1)) }

// other returns a text with another line of an entry.
func other(line string) string { return replaced("lesson 0 0", line) }

// many returns a text with so many entries.
func many(many int) string {
	return checked("book " + strconv.Itoa(many) + "\n" + strings.Repeat("pain 0 0\n", many))
}

// P9.8: the form of a text
func TestReadForms(t *testing.T) {
	if checked(linesB) != textB {
		t.Fatal(checked(linesB))
	}
	end := func(old, new string) string { return strings.Replace(textB, old, new, 1) }
	for i, text := range []string{
		"", "\n", "\n\n", "\n\n\n", "\n\n\n\n", " ", "book", "end", "book 0", "end 088\n", "end 000\n", "book 0\n", "book\nend 000\n", checked(""), checked("book\n"), checked("\n"), checked("lesson 0 0\n"), checked("0\n"), linesB, textB[1:], textB + "\n", "\n" + textB, textB + " ", textB + "\x00", textB[:len(textB)-1], textB + textB, " " + textB, strings.ReplaceAll(textB, "\n", "\r\n"), strings.ReplaceAll(textB, "\n", "\n\n"), strings.ToUpper(textB), "\ufeff" + textB, strings.Repeat("x", api.RescueText), strings.Repeat("\n", api.RescueText), strings.Repeat(" ", api.RescueText), textB + strings.Repeat("\n", api.RescueText-len(textB)),
		// how many lines there are
		replaced("book 1", "book 0"), replaced("book 1", "book 2"), replaced("book 1", "book 01"), replaced("book 1", "book +1"), replaced("book 1", "book -1"), replaced("book 1", "book  1"), replaced("book 1", "book 1 "), replaced("book 1", "book 1 1"), replaced("book 1", "book"), replaced("book 1", "book1"), replaced("book 1", "book x"), replaced("book 1", "Book 1"), replaced("book 1", "books 1"), replaced("book 1", " book 1"), replaced("book 1", "1"), replaced("book 1\n", ""), replaced("book 1", "book 18446744073709551617"), replaced("book 1", "book 4294967297"), checked(linesB + "lesson 0 0\n"), checked("book 1\n"), checked("lesson 0 0\nbook 1\n"), checked(linesB + "\n"), checked(linesB + "end 039\n"), textB + "lesson 0 0\n", replaced("book 1\n", "book 1\n\n"),
		// words and blanks of a line
		other("lesson"), other("lesson "), other("lesson 0"), other("lesson 0 "), other("lesson 0 0 "), other("lesson 0 0 0"), other("lesson 0 0 0 0"), other("lesson 0 0 0 0 0"), other("lesson 0 0\n"), other("lesson  0 0"), other("lesson 0  0"), other(" lesson 0 0"), other("lesson\t0 0"), other("lesson 0\t0"), other("lesson0 0"), other("lesson 00"), other("0 0"), other("0 0 0"), other(" 0 0"), other("Lesson 0 0"), other("lessons 0 0"), other("lesso 0 0"), other("book 0 0"), other("end 0 0"), other("x"), other("dive 0 0"), other("dive 0 0 "), other("dive 0"), other("dive"), other("dive 0 0 0 0"), other("dive 0 0 0 "), other("dive  0 0 0"), other("dives 0 0 0"), other("Dive 0 0 0"), other("pain 0 0 0"), other("pain 0"), other("pains 0 0"), other("test 0 0 0"), other("test 0"), other("tests 0 0"), other("lesson 0 0 lesson 0 0"),
		// numbers
		other("lesson 00 0"), other("lesson 0 00"), other("lesson 01 1"), other("lesson 1 01"), other("dive 05 1 1"), other("dive 5 01 1"), other("dive 5 1 01"), other("pain 01 1"), other("test 1 01"), other("lesson -0 0"), other("lesson +1 1"), other("lesson -1 0"), other("lesson x 0"), other("lesson 0 x"), other("lesson / 0"), other("lesson : 0"), other("lesson \u0663 0"), other("lesson \xff 0"), other("lesson 0. 0"), other("lesson 0x 0"), other("lesson 100 0"), other("lesson 0 100"), other("lesson 000 0"), other("dive 100 0 0"), other("dive 0 100 0"), other("dive 0 0 100"), other("lesson 18446744073709551616 0"), other("lesson 0 4294967296"), other("dive 18446744073709551616 0 0"),
		// the check
		end("039", "040"), end("039", "038"), end("039", "39"), end("039", "0039"), end("039", "170"), end("039", ""), end(" 039", ""), end("039", "03x"), end("039", "039 "), end("039", "039 0"), end("039", "+39"), end("end ", "end  "), end("end", "End"), end("end ", "end"), end("end ", "ende "), end("end ", ""), end("end", "book"), end("0 0", "0 1"), end("0 0", "1 0"), "book 0\nend 88\n", "book 0\nend 219\n", "book 0\nend 089\n",
	} {
		if b, e := rescue.Read(text); e != api.ErrText || len(b) != 0 {
			t.Errorf("%d %q %v %v", i, text, b, e)
		}
	}
}

// P9.8: what has the right form, and what is too long
func TestReadErrors(t *testing.T) {
	for i, x := range []struct {
		text string
		want api.Errno
	}{
		{textB, api.OK}, {other("lesson 0 3"), api.OK}, {other("lesson 60 60"), api.OK}, {other("dive 40 57 60"), api.OK}, {other("pain 0 0"), api.OK}, {other("test 0 0"), api.OK}, {checked("book 2\ntest 9 9\ntest 8 8\n"), api.OK}, {many(0), api.OK}, {many(1), api.OK}, {many(6), api.OK},
		{many(7), api.ErrArg}, {many(9), api.ErrArg}, {many(10), api.ErrArg}, {many(20), api.ErrArg}, {many(21), api.ErrLong}, {other("lesson 0 9"), api.ErrArg}, {other("lesson 0 4"), api.ErrArg}, {other("lesson 1 0"), api.ErrArg}, {other("lesson 60 61"), api.ErrArg}, {other("lesson 61 61"), api.ErrArg}, {other("lesson 99 99"), api.ErrArg}, {other("dive 41 0 0"), api.ErrArg}, {other("dive 99 0 0"), api.ErrArg}, {other("dive 5 0 4"), api.ErrArg}, {other("dive 5 3 2"), api.ErrArg}, {other("pain 56 60"), api.ErrArg}, {other("test 60 57"), api.ErrArg},
		// a text that is too long comes before all others, and one that is none before the book
		{strings.Repeat("x", api.RescueText+1), api.ErrLong}, {strings.Repeat("\n", api.RescueText+1), api.ErrLong}, {textB + strings.Repeat("\n", api.RescueText-len(textB)+1), api.ErrLong}, {many(30), api.ErrLong}, {strings.Replace(other("lesson 0 9"), "end 0", "end 1", 1), api.ErrText}, {other("lesson 99 99")[1:], api.ErrText}, {many(7) + "\n", api.ErrText},
	} {
		b, e := rescue.Read(x.text)
		if e != x.want || e != api.OK && len(b) != 0 {
			t.Errorf("%d %q %v %v", i, x.text, b, e)
		}
	}
}
