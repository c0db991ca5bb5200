package line_test

import (
	"math/rand"
	"strconv"
	"strings"
	"testing"

	"bathyal/api"
	"bathyal/line"
)

// textX is the text of the log of the chapter.
const textX = "log 2\n3\n2-2\nend 084\n"

// checked returns lines with the line end that belongs to them.
func checked(lines string) string {
	sum, row, place := 0, 1, 1
	for _, b := range []byte(lines) {
		if b == '\n' {
			row, place = row+1, 1
			continue
		}
		sum += int(b) * place * row
		place++
	}
	check := strconv.Itoa(sum % 127)
	return lines + "end " + strings.Repeat("0", 3-len(check)) + check + "\n"
}

// P3.9
func TestPrint(t *testing.T) {
	many := l(18, 18, 18, 18, 18, 18)
	for i, x := range []struct {
		log  [][]int
		want string
	}{
		{words(l(3), l(2, 2)), textX}, {nil, "log 0\nend 118\n"}, {words(nil), "log 1\n0\nend 092\n"},
		{words(nil, l(10), l(1, 1, 1, 1, 1, 1)), checked("log 3\n0\n10\n1-1-1-1-1-1\n")},
		{words(many, many, many, many, many), checked("log 5\n" + strings.Repeat("18-18-18-18-18-18\n", 5))},
	} {
		if got, e := line.Print(x.log); e != api.OK || got != x.want {
			t.Errorf("%d %q %v", i, got, e)
		}
		if got, e := line.Read(x.want); e != api.OK || !equal(got, x.log) {
			t.Errorf("%d %v %v", i, got, e)
		}
	}
	for i, log := range badLogs() {
		if got, e := line.Print(log); e != api.ErrArg || got != "" {
			t.Errorf("%d %q %v", i, got, e)
		}
	}
}

// anyLog returns any log and its text.
func anyLog(t *testing.T, r *rand.Rand) ([][]int, string) {
	var log [][]int
	for range r.Intn(api.LineLog + 1) {
		log = append(log, anyWord(r, api.LineLong, api.LineMany))
	}
	text, e := line.Print(log)
	if e != api.OK {
		t.Fatal(log, e)
	}
	return log, text
}

// P3.9, P0.11: what was written is read as what was written
func TestReadOfWritten(t *testing.T) {
	r := source(10)
	for range 2000 {
		log, text := anyLog(t, r)
		if body := text[:strings.Index(text, "end")]; text != checked(body) {
			t.Fatal(log, text)
		}
		if got, e := line.Read(text); e != api.OK || !equal(got, log) {
			t.Fatal(log, text, got, e)
		}
	}
}

// P3.9: one byte that was changed is noticed
func TestReadOfChanged(t *testing.T) {
	r := source(11)
	for range 40 {
		_, text := anyLog(t, r)
		for i := range len(text) {
			for b := range 256 {
				changed := []byte(text)
				changed[i] = byte(b)
				if string(changed) == text {
					continue
				}
				if got, e := line.Read(string(changed)); e != api.ErrText || len(got) != 0 {
					t.Fatalf("%q %v %v", changed, got, e)
				}
			}
		}
	}
}

// P3.9
func TestReadErrors(t *testing.T) {
	const lines = "log 2\n3\n2-2\n"
	replaced := func(old, new string) string { return checked(strings.Replace(lines, old, new, 1)) }
	with := func(word string) string { return checked("log 1\n" + word + "\n") }
	zeros := func(n int) string {
		return checked("log " + strconv.Itoa(n) + "\n" + strings.Repeat("0\n", n))
	}
	if checked(lines) != textX {
		t.Fatal(checked(lines))
	}
	for i, x := range []struct {
		text string
		want api.Errno
	}{
		{textX, api.OK}, {checked("log 0\n"), api.OK}, {with("0"), api.OK}, {with("18-1-1-1-1-18"), api.OK}, {zeros(api.LineLog), api.OK},
		{strings.Repeat("x", api.LineText+1), api.ErrLong}, {zeros(143), api.ErrLong}, {strings.Repeat("x", api.LineText), api.ErrText},
		{"", api.ErrText}, {"\n", api.ErrText}, {"\n\n", api.ErrText}, {"\n\n\n", api.ErrText}, {"end 000\n", api.ErrText}, {"log 0\n", api.ErrText}, {lines, api.ErrText},
		{checked(""), api.ErrText}, {checked("\n"), api.ErrText}, {checked("3\n"), api.ErrText}, {checked("3\nlog 1\n"), api.ErrText}, {checked("log 0\nlog 0\n"), api.ErrText}, {checked("log 1\n\n"), api.ErrText}, {checked("log 2\n3\n\n"), api.ErrText}, {checked("\nlog 0\n"), api.ErrText},
		{textX[1:], api.ErrText}, {textX + "\n", api.ErrText}, {"\n" + textX, api.ErrText}, {strings.TrimSuffix(textX, "\n"), api.ErrText}, {textX + textX, api.ErrText}, {textX + "x", api.ErrText}, {strings.ReplaceAll(textX, "\n", "\r\n"), api.ErrText},
		// the number of words
		{replaced("log 2", "log 1"), api.ErrText}, {replaced("log 2", "log 3"), api.ErrText}, {replaced("log 2", "log 02"), api.ErrText}, {replaced("log 2", "log +2"), api.ErrText}, {replaced("log 2", "log"), api.ErrText}, {replaced("log 2", "log 2 2"), api.ErrText}, {replaced("log 2", "log 2-2"), api.ErrText}, {replaced("log 2", "log x"), api.ErrText}, {checked("log\n"), api.ErrText}, {checked("log 00\n"), api.ErrText}, {checked("log \n"), api.ErrText},
		// the check
		{strings.Replace(textX, "084", "085", 1), api.ErrText}, {strings.Replace(textX, "084", "84", 1), api.ErrText}, {strings.Replace(textX, "084", "0084", 1), api.ErrText}, {strings.Replace(textX, "084", "211", 1), api.ErrText}, {strings.Replace(textX, " 084", "", 1), api.ErrText}, {strings.Replace(textX, "084", "", 1), api.ErrText}, {strings.Replace(textX, "end 084", "end  084", 1), api.ErrText}, {strings.Replace(textX, "084", "084 ", 1), api.ErrText}, {strings.Replace(textX, "end", "End", 1), api.ErrText}, {strings.Replace(textX, "end", "ends", 1), api.ErrText}, {strings.Replace(textX, "084", "08x", 1), api.ErrText},
		// words and blanks
		{replaced("log", "Log"), api.ErrText}, {replaced("log", "logs"), api.ErrText}, {replaced("log ", "log  "), api.ErrText}, {replaced("log ", "log\t"), api.ErrText}, {replaced("log", " log"), api.ErrText}, {replaced("log 2", "log 2 "), api.ErrText},
		{replaced("3", "3 "), api.ErrText}, {replaced("3", " 3"), api.ErrText}, {replaced("2-2", "2 2"), api.ErrText}, {replaced("2-2", "2- 2"), api.ErrText}, {replaced("2-2", "2--2"), api.ErrText}, {replaced("2-2", "-2"), api.ErrText}, {replaced("2-2", "2-"), api.ErrText}, {replaced("2-2", "-"), api.ErrText}, {replaced("2-2", "2_2"), api.ErrText},
		// numbers
		{with("03"), api.ErrText}, {with("00"), api.ErrText}, {with("2-02"), api.ErrText}, {with("2-00"), api.ErrText}, {with("+3"), api.ErrText}, {with("2-+3"), api.ErrText}, {with("100"), api.ErrText}, {with("1-100"), api.ErrText}, {with("1-999999999999999999999"), api.ErrText}, {with("x"), api.ErrText}, {with("2x"), api.ErrText}, {with("0x"), api.ErrText}, {with("3."), api.ErrText}, {with("\xff"), api.ErrText}, {with("\u0663"), api.ErrText}, {with("1-\u0663"), api.ErrText}, {with("/"), api.ErrText}, {with(":"), api.ErrText}, {with("1:"), api.ErrText},
		{zeros(100), api.ErrText}, {zeros(140), api.ErrText},
		// the form is right, and the log is not as defined
		{"log 1\n0-1\nend 058\n", api.ErrArg}, {with("0-0"), api.ErrArg}, {with("2-0"), api.ErrArg}, {with("1-0-1"), api.ErrArg}, {with("19"), api.ErrArg}, {with("99"), api.ErrArg}, {with("1-19"), api.ErrArg}, {with("1-1-1-1-1-1-1"), api.ErrArg}, {zeros(api.LineLog + 1), api.ErrArg}, {zeros(99), api.ErrArg}, {replaced("2-2", "2-0"), api.ErrArg},
		{"log 1\n0-1\nend 059\n", api.ErrText},
		// just as long as texts can be, and longer by one byte
		{with("1" + strings.Repeat("-1", 142)), api.ErrArg}, {with("10" + strings.Repeat("-1", 142)), api.ErrLong},
	} {
		got, e := line.Read(x.text)
		if e != x.want || e != api.OK && len(got) != 0 {
			t.Errorf("%d %q %v %v", i, x.text, got, e)
		}
	}
}
