package air_test

import (
	"math/rand"
	"slices"
	"strconv"
	"strings"
	"testing"

	"bathyal/air"
	"bathyal/api"
)

// textX is the sheet of the chapter, and rosterX its roster.
const textX = "sheet 2 3\n0 1\n0 1\n1 2\nend 39\n"

func rosterX() [][]int { return roster(l(0, 1), l(0, 1), l(1, 2)) }

// checked returns lines, of which the first one tells no crews, with the line end that belongs to them.
func checked(lines string) string {
	sum := 0
	for watch, line := range strings.Split(lines, "\n") {
		for place, word := range strings.Fields(line) {
			if crew, e := strconv.Atoi(word); e == nil && watch > 0 {
				sum += (crew + 1) * watch * (place + 1)
			}
		}
	}
	check := strconv.Itoa(sum % 97)
	return lines + "end " + strings.Repeat("0", 2-len(check)) + check + "\n"
}

// P4.9
func TestPrint(t *testing.T) {
	for i, x := range []struct {
		crews  int
		roster [][]int
		want   string
	}{
		{3, rosterX(), textX}, {4, rosterX(), textX}, {1, roster(l(0)), "sheet 1 1\n0\nend 01\n"}, {4, roster(l(3)), "sheet 1 1\n3\nend 04\n"}, {4, roster(l(1, 2, 3), l(0, 2, 3)), "sheet 3 2\n1 2 3\n0 2 3\nend 58\n"},
		{4, slices.Repeat(roster(l(1, 2, 3)), 6), "sheet 3 6\n" + strings.Repeat("1 2 3\n", 6) + "end 32\n"},
	} {
		if got, e := air.Print(x.crews, x.roster); e != api.OK || got != x.want || got != checked(got[:strings.Index(got, "end")]) {
			t.Errorf("%d %q %v", i, got, e)
		}
		if got, e := air.Read(x.crews, x.want); e != api.OK || !equal(got, x.roster) {
			t.Errorf("%d %v %v", i, got, e)
		}
	}
	for i, x := range badRosters() {
		if got, e := air.Print(4, x); e != api.ErrArg || got != "" {
			t.Errorf("%d %q %v", i, got, e)
		}
	}
	for _, crews := range l(2, 1, 0, -1, api.AirCrews+1, 1<<63-1, -1<<63) {
		if got, e := air.Print(crews, rosterX()); e != api.ErrArg || got != "" {
			t.Errorf("%d %q %v", crews, got, e)
		}
	}
}

// anyRoster returns a roster of so many crews, be they few or many, and its sheet.
func anyRoster(t *testing.T, r *rand.Rand) (int, [][]int, string) {
	t.Helper()
	crews := anyOf(r, 1, api.AirCrews)
	pumps := anyOf(r, 1, min(crews, api.AirPumps))
	var x [][]int
	for range anyOf(r, 1, api.AirWatches) {
		x = append(x, slices.Sorted(slices.Values(r.Perm(crews)[:pumps])))
	}
	text, e := air.Print(crews, x)
	if e != api.OK {
		t.Fatal(crews, x, e)
	}
	return crews, x, text
}

// P4.9, P0.11: what was written is read as what was written
func TestReadOfWritten(t *testing.T) {
	r := source(13)
	for range 3000 {
		crews, x, text := anyRoster(t, r)
		if text != checked(text[:strings.Index(text, "end")]) {
			t.Fatal(x, text)
		}
		if got, e := air.Read(crews, text); e != api.OK || !equal(got, x) {
			t.Fatal(crews, x, text, got, e)
		}
	}
}

// P4.9: a digit that was changed is noticed, and so is any other byte
func TestReadOfChanged(t *testing.T) {
	r := source(14)
	for range 60 {
		crews, _, text := anyRoster(t, r)
		for i := range len(text) {
			for b := range 256 {
				changed := []byte(text)
				changed[i] = byte(b)
				if string(changed) == text {
					continue
				}
				if got, e := air.Read(crews, string(changed)); e != api.ErrText || len(got) != 0 {
					t.Fatalf("%q %v %v", changed, got, e)
				}
			}
		}
	}
}

// P4.9
func TestReadErrors(t *testing.T) {
	const lines = "sheet 2 3\n0 1\n0 1\n1 2\n"
	replaced := func(old, new string) string { return checked(strings.Replace(lines, old, new, 1)) }
	sheet := func(pumps, watches int, watch string) string {
		return checked("sheet " + strconv.Itoa(pumps) + " " + strconv.Itoa(watches) + "\n" + strings.Repeat(watch+"\n", watches))
	}
	if checked(lines) != textX {
		t.Fatal(checked(lines))
	}
	for i, x := range []struct {
		crews int
		text  string
		want  api.Errno
	}{
		{3, textX, api.OK}, {4, textX, api.OK}, {1, sheet(1, 6, "0"), api.OK}, {4, sheet(3, 6, "1 2 3"), api.OK},
		{3, strings.Repeat("x", api.AirText+1), api.ErrLong}, {0, strings.Repeat("x", api.AirText+1), api.ErrLong}, {3, strings.Repeat("x", api.AirText), api.ErrText}, {0, strings.Repeat("x", api.AirText), api.ErrText}, {4, sheet(9, 9, "0 1 2 3 4 5 6 7 8"), api.ErrLong},
		{3, "", api.ErrText}, {0, "", api.ErrText}, {3, "\n", api.ErrText}, {3, "\n\n", api.ErrText}, {3, "\n\n\n", api.ErrText}, {3, "\n\n\n\n", api.ErrText}, {3, "end 00\n", api.ErrText}, {3, lines, api.ErrText}, {3, "0 1\n0 1\n1 2\nend 39\n", api.ErrText}, {3, "0\n0\n0\n0\n0\n", api.ErrText},
		{3, textX[1:], api.ErrText}, {3, textX + "\n", api.ErrText}, {3, "\n" + textX, api.ErrText}, {3, strings.TrimSuffix(textX, "\n"), api.ErrText}, {3, textX + textX, api.ErrText}, {3, textX + "x", api.ErrText}, {3, strings.ReplaceAll(textX, "\n", "\r\n"), api.ErrText}, {3, strings.ReplaceAll(textX, "\n", "\n\n"), api.ErrText},
		// no watches, no crews, and other numbers of them
		{3, "sheet 0 0\nend 00\n", api.ErrText}, {3, "sheet 1 0\nend 00\n", api.ErrText}, {3, sheet(0, 1, ""), api.ErrText}, {3, sheet(1, 1, ""), api.ErrText}, {3, sheet(0, 3, ""), api.ErrText}, {3, sheet(1, 1, "0 1"), api.ErrText}, {3, sheet(2, 1, "0"), api.ErrText}, {3, checked("sheet 1 1\n0\n0\n"), api.ErrText}, {3, checked("sheet 1 3\n0\n0\n"), api.ErrText}, {3, checked("sheet 2 2\n0 1\n0\n"), api.ErrText}, {3, checked("sheet 1 2\n0\n0 1\n"), api.ErrText}, {3, checked("sheet 1 2\n0\n\n"), api.ErrText}, {3, checked("sheet 1 2\n\n0\n"), api.ErrText},
		{3, replaced("2 3", "3 2"), api.ErrText}, {3, replaced("2 3", "2 4"), api.ErrText}, {3, replaced("2 3", "2 2"), api.ErrText}, {3, replaced("2 3", "1 3"), api.ErrText}, {3, replaced("2 3", "2"), api.ErrText}, {3, replaced("2 3", "2 3 3"), api.ErrText}, {3, replaced("2 3", "02 3"), api.ErrText}, {3, replaced("2 3", "2 03"), api.ErrText}, {3, replaced("2 3", "+2 3"), api.ErrText}, {3, replaced("2 3", "2  3"), api.ErrText}, {3, replaced("2 3", "2 3 "), api.ErrText}, {3, replaced("2 3", "23"), api.ErrText}, {3, replaced("2 3", "x 3"), api.ErrText},
		// words and blanks
		{3, replaced("sheet", "Sheet"), api.ErrText}, {3, replaced("sheet", "sheets"), api.ErrText}, {3, replaced("sheet ", "sheet"), api.ErrText}, {3, replaced("sheet ", "sheet  "), api.ErrText}, {3, replaced("sheet ", "sheet\t"), api.ErrText}, {3, replaced("sheet", " sheet"), api.ErrText}, {3, replaced("sheet ", ""), api.ErrText},
		{3, replaced("0 1", "0  1"), api.ErrText}, {3, replaced("0 1", " 0 1"), api.ErrText}, {3, replaced("0 1", "0 1 "), api.ErrText}, {3, replaced("0 1", "01"), api.ErrText}, {3, replaced("0 1", "0-1"), api.ErrText}, {3, replaced("0 1", "0\t1"), api.ErrText}, {3, replaced("0 1", "0\u00a01"), api.ErrText}, {3, replaced("0 1", "0\x001"), api.ErrText},
		{3, strings.Replace(textX, "end 39", "end  39", 1), api.ErrText}, {3, strings.Replace(textX, "end 39", "end 39 ", 1), api.ErrText}, {3, strings.Replace(textX, "end", "End", 1), api.ErrText}, {3, strings.Replace(textX, "end", "ends", 1), api.ErrText}, {3, strings.Replace(textX, "end ", "end", 1), api.ErrText},
		// numbers
		{3, replaced("0 1", "0 01"), api.ErrText}, {3, replaced("0 1", "00 1"), api.ErrText}, {4, replaced("1 2", "1 10"), api.ErrText}, {3, replaced("0 1", "0 +1"), api.ErrText}, {3, replaced("0 1", "-0 1"), api.ErrText}, {3, replaced("0 1", "0 x"), api.ErrText}, {3, replaced("0 1", "/ 1"), api.ErrText}, {3, replaced("0 1", ": 1"), api.ErrText}, {3, replaced("0 1", "0 \xff"), api.ErrText}, {3, replaced("0 1", "0 \u0661"), api.ErrText},
		{4, sheet(1, 10, "0"), api.ErrText}, {4, sheet(10, 1, "0 1 2 3 4 5 6 7 8 9"), api.ErrText}, {4, sheet(1, 20, "0"), api.ErrText},
		// the check
		{3, strings.Replace(textX, "39", "38", 1), api.ErrText}, {3, strings.Replace(textX, "39", "93", 1), api.ErrText}, {3, strings.Replace(textX, "39", "039", 1), api.ErrText}, {3, strings.Replace(textX, "39", "136", 1), api.ErrText}, {3, strings.Replace(textX, "39", "", 1), api.ErrText}, {3, strings.Replace(textX, " 39", "", 1), api.ErrText}, {3, strings.Replace(textX, "39", "3x", 1), api.ErrText}, {1, "sheet 1 1\n0\nend 1\n", api.ErrText}, {1, "sheet 1 1\n0\nend 98\n", api.ErrText}, {1, "sheet 1 1\n0\nend 001\n", api.ErrText},
		// the form is right, and the roster is not as defined
		{2, textX, api.ErrArg}, {1, textX, api.ErrArg}, {0, textX, api.ErrArg}, {-1, textX, api.ErrArg}, {5, textX, api.ErrArg}, {1<<63 - 1, textX, api.ErrArg}, {-1 << 63, textX, api.ErrArg},
		{4, sheet(1, 1, "4"), api.ErrArg}, {4, sheet(1, 1, "9"), api.ErrArg}, {4, sheet(2, 1, "1 0"), api.ErrArg}, {4, sheet(2, 1, "1 1"), api.ErrArg}, {4, sheet(3, 1, "0 2 1"), api.ErrArg}, {4, sheet(4, 1, "0 1 2 3"), api.ErrArg}, {4, sheet(9, 1, "0 1 2 3 4 5 6 7 8"), api.ErrArg}, {4, sheet(1, 7, "0"), api.ErrArg}, {4, sheet(1, 9, "0"), api.ErrArg}, {4, sheet(4, 9, "0 1 2 3"), api.ErrArg},
		{0, strings.Replace(textX, "39", "38", 1), api.ErrText}, {4, "sheet 1 1\n4\nend 06\n", api.ErrText},
		// just as long as texts can be
		{4, sheet(9, 4, "0 1 2 3 4 5 6 7 8"), api.ErrArg}, {4, checked("sheet 9 4\n" + strings.Repeat("0 1 2 3 4 5 6 7 8\n", 4) + "          "), api.ErrText},
	} {
		got, e := air.Read(x.crews, x.text)
		if e != x.want || e != api.OK && len(got) != 0 {
			t.Errorf("%d %q %v %v", i, x.text, got, e)
		}
	}
}
