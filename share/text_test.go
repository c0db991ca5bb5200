package share_test

import (
	"strconv"
	"strings"
	"testing"

	"bathyal/api"
	"bathyal/share"
)

// The text of the chapter, and its lines before the end.
const (
	linesX = "season 2 1\nperson 1 0 stays\nperson 2 7 dies\nlanding 90 15 0 1\n"
	textX  = linesX + "end 044\n"
)

// seasonX returns the season of the text of the chapter.
func seasonX() api.ShareSeason {
	return api.ShareSeason{
		Persons:  []api.SharePerson{{Parts: 1, Fate: api.ShareStays}, {Parts: 2, Debt: 7, Fate: api.ShareDies}},
		Landings: []api.ShareLanding{{Gross: 90, Costs: 15, Crew: 3}},
	}
}

// checked returns lines with the line end that belongs to them.
func checked(lines string) string {
	sum, place := 0, 0
	for _, b := range []byte(lines) {
		place++
		if b == '\n' {
			place = 0
		}
		sum += place * int(b)
	}
	check := strconv.Itoa(sum % 113)
	return lines + "end " + strings.Repeat("0", 3-len(check)) + check + "\n"
}

// P5.9
func TestPrint(t *testing.T) {
	for i, x := range []struct {
		season api.ShareSeason
		want   string
	}{
		{seasonX(), textX},
		{seasonS(), checked("season 3 3\nperson 3 0 stays\nperson 2 40 stays\nperson 1 10 stays\nlanding 130 30 0 1 2\nlanding 50 0 0 1\nlanding 10 20 0 2\n")},
		{seasonT(), checked("season 3 3\nperson 3 0 stays\nperson 2 40 stays\nperson 1 10 deserts\nlanding 130 30 0 1 2\nlanding 50 0 0 1\nlanding 10 20 0 2\n")},
		{idle(), checked("season 3 0\nperson 3 0 stays\nperson 2 40 stays\nperson 1 10 stays\n")},
		{rich(), checked("season 6 6\nperson 13 0 stays\nperson 1 100000 stays\nperson 1 100000 stays\nperson 2 100000 stays\nperson 6 100000 stays\nperson 1 100000 stays\nlanding 100000 0 0 1 2 3\nlanding 100000 0 0 4\nlanding 100000 0 0 3 4\nlanding 100000 0 0 3 4 5\nlanding 100000 0 0 1 2 3 4\nlanding 100000 0 0\n")},
	} {
		if got, e := share.Print(x.season); e != api.OK || got != x.want {
			t.Errorf("%d %q %v", i, got, e)
		}
		if got, e := share.Read(x.want); e != api.OK || !equal(got, x.season) {
			t.Errorf("%d %v %v", i, got, e)
		}
	}
	for i, s := range badSeasons() {
		if got, e := share.Print(s); e != api.ErrArg || got != "" {
			t.Errorf("%d %q %v", i, got, e)
		}
	}
}

// P5.9, P0.11: what was written is read as what was written
func TestReadOfWritten(t *testing.T) {
	r := source(14)
	longest := 0
	for range 4000 {
		s := anySeason(r)
		text, e := share.Print(s)
		if e != api.OK || text != checked(text[:strings.Index(text, "end")]) {
			t.Fatalf("%v %q %v", s, text, e)
		}
		if got, e := share.Read(text); e != api.OK || !equal(got, s) {
			t.Fatalf("%v %q %v %v", s, text, got, e)
		}
		longest = max(longest, len(text))
	}
	if longest < 250 {
		t.Error(longest)
	}
}

// P5.9: one digit that was changed is noticed
func TestReadOfChanged(t *testing.T) {
	r := source(15)
	for range 200 {
		text, _ := share.Print(anySeason(r))
		for i := range len(text) {
			if text[i] < '0' || text[i] > '9' {
				continue
			}
			for digit := range 10 {
				changed := text[:i] + strconv.Itoa(digit) + text[i+1:]
				if got, e := share.Read(changed); changed != text && (e != api.ErrText || !equal(got, api.ShareSeason{})) {
					t.Fatalf("%q %v %v", changed, got, e)
				}
			}
		}
	}
}

// P5.9: and so is any other byte
func TestReadOfOtherBytes(t *testing.T) {
	r := source(16)
	for range 6 {
		text, _ := share.Print(anySeason(r))
		for i := range len(text) {
			for b := range 256 {
				changed := text[:i] + string([]byte{byte(b)}) + text[i+1:]
				if got, e := share.Read(changed); changed != text && (e != api.ErrText || !equal(got, api.ShareSeason{})) {
					t.Fatalf("%q %v %v", changed, got, e)
				}
			}
		}
	}
}

// P5.9: a text that is read is the one that is written, also if there is a byte more or less
func TestReadOfOthers(t *testing.T) {
	r := source(17)
	met := map[api.Errno]int{}
	for range 300 {
		text, _ := share.Print(anySeason(r))
		lines := text[:strings.Index(text, "end")]
		i := r.Intn(len(lines))
		for _, changed := range []string{lines[:i] + lines[i+1:], lines[:i] + strconv.Itoa(r.Intn(10)) + lines[i:], lines[:i] + " " + lines[i:]} {
			s, e := share.Read(checked(changed))
			if again, f := share.Print(s); e == api.OK && (f != api.OK || again != checked(changed)) {
				t.Fatalf("%q %v %v", changed, s, e)
			}
			met[e]++
		}
	}
	wantAll(t, met, api.OK, api.ErrText, api.ErrArg)
}

// P5.9
func TestReadErrors(t *testing.T) {
	replaced := func(old, new string) string { return checked(strings.Replace(linesX, old, new, 1)) }
	// of returns a text with more persons and landings, of as many as it says
	of := func(persons, landings int, person, landing string) string {
		return checked("season " + strconv.Itoa(persons) + " " + strconv.Itoa(landings) + "\n" + strings.Repeat(person+"\n", persons) + strings.Repeat(landing+"\n", landings))
	}
	const person, landing = "person 1 0 stays", "landing 9 5 0 1"
	if checked(linesX) != textX {
		t.Fatal(checked(linesX))
	}
	for i, x := range []struct {
		text string
		want api.Errno
	}{
		{textX, api.OK}, {of(2, 0, person, landing), api.OK}, {of(6, 6, person, "landing 100000 100000 0 1 2 3 4 5"), api.OK}, {of(3, 1, person, "landing 0 0 0"), api.OK},
		{strings.Repeat("x", api.ShareText+1), api.ErrLong}, {strings.Repeat("x", api.ShareText), api.ErrText}, {strings.Repeat("\n", api.ShareText), api.ErrText}, {of(6, 6, person, "landing 100000 100000 0 1 2 3 4 5") + strings.Repeat(" ", 200), api.ErrLong}, {of(24, 0, person, ""), api.ErrLong}, {textX + strings.Repeat("\n", api.ShareText-len(textX)), api.ErrText}, {textX + strings.Repeat("\n", api.ShareText-len(textX)+1), api.ErrLong},
		{"", api.ErrText}, {"\n", api.ErrText}, {"end 000\n", api.ErrText}, {linesX, api.ErrText}, {textX[1:], api.ErrText}, {textX + "\n", api.ErrText}, {"\n" + textX, api.ErrText}, {strings.TrimSuffix(textX, "\n"), api.ErrText}, {textX + textX, api.ErrText}, {textX + "x", api.ErrText}, {textX + " ", api.ErrText}, {strings.ReplaceAll(textX, "\n", "\r\n"), api.ErrText}, {strings.ReplaceAll(textX, "\n", "\n\n"), api.ErrText}, {strings.ToUpper(textX), api.ErrText}, {"\ufeff" + textX, api.ErrText},
		// other numbers of persons and landings, and lines in another order
		{replaced("2 1", "1 2"), api.ErrText}, {replaced("2 1", "3 1"), api.ErrText}, {replaced("2 1", "1 1"), api.ErrText}, {replaced("2 1", "2 0"), api.ErrText}, {replaced("2 1", "2 2"), api.ErrText}, {replaced("2 1", "2"), api.ErrText}, {replaced("2 1", "2 1 1"), api.ErrText}, {replaced("2 1", "02 1"), api.ErrText}, {replaced("2 1", "2 01"), api.ErrText}, {replaced("2 1", "+2 1"), api.ErrText}, {replaced("2 1", "2  1"), api.ErrText}, {replaced("2 1", "2 1 "), api.ErrText}, {replaced("2 1", "21"), api.ErrText}, {replaced("2 1", "x 1"), api.ErrText}, {replaced("season 2 1\n", ""), api.ErrText}, {replaced("season 2 1\n", "season 2 1\nseason 2 1\n"), api.ErrText}, {replaced("season", "seasons"), api.ErrText}, {replaced("season ", ""), api.ErrText}, {replaced("season", " season"), api.ErrText},
		{checked("season 2 1\nlanding 90 15 0 1\nperson 1 0 stays\nperson 2 7 dies\n"), api.ErrText}, {checked("season 2 1\nperson 1 0 stays\nlanding 90 15 0 1\nperson 2 7 dies\n"), api.ErrText}, {checked("person 1 0 stays\nperson 2 7 dies\nlanding 90 15 0 1\nseason 2 1\n"), api.ErrText}, {replaced("landing", "\nlanding"), api.ErrText}, {replaced("person 2", "\nperson 2"), api.ErrText}, {replaced("landing", "end 000\nlanding"), api.ErrText}, {replaced("landing", "other\nlanding"), api.ErrText},
		// words and blanks of a line person
		{replaced("1 0 stays", "1 0"), api.ErrText}, {replaced("1 0 stays", "1 stays"), api.ErrText}, {replaced("1 0 stays", "1 0 0 stays"), api.ErrText}, {replaced("1 0 stays", "1 0 stays stays"), api.ErrText}, {replaced("1 0 stays", "1 0  stays"), api.ErrText}, {replaced("1 0 stays", "1  0 stays"), api.ErrText}, {replaced("1 0 stays", " 1 0 stays"), api.ErrText}, {replaced("1 0 stays", "1 0 stays "), api.ErrText}, {replaced("1 0 stays", "1 0 "), api.ErrText}, {replaced("stays", "stay"), api.ErrText}, {replaced("stays", "Stays"), api.ErrText}, {replaced("stays", "1"), api.ErrText}, {replaced("dies", "died"), api.ErrText}, {replaced("dies", "desert"), api.ErrText}, {replaced("person", "persons"), api.ErrText}, {replaced("person", "Person"), api.ErrText}, {replaced("person 1", "person\t1"), api.ErrText}, {replaced("person 1", "person1"), api.ErrText},
		// words and blanks of a line landing
		{replaced("90 15 0 1", ""), api.ErrText}, {replaced("landing 90 15 0 1", "landing"), api.ErrText}, {replaced("90 15 0 1", "90"), api.ErrText}, {replaced("90 15 0 1", "90 15 "), api.ErrText}, {replaced("90 15 0 1", "90 15  0 1"), api.ErrText}, {replaced("90 15 0 1", "90 15 0 1 "), api.ErrText}, {replaced("90 15 0 1", "90 15 0  1"), api.ErrText}, {replaced("90 15 0 1", "90 15 01"), api.ErrText}, {replaced("90 15 0 1", "90 15 0,1"), api.ErrText}, {replaced("landing", "landings"), api.ErrText}, {replaced("landing", "Landing"), api.ErrText},
		// numbers
		{replaced("1 0 stays", "01 0 stays"), api.ErrText}, {replaced("1 0 stays", "1 00 stays"), api.ErrText}, {replaced("1 0 stays", "+1 0 stays"), api.ErrText}, {replaced("1 0 stays", "1 -0 stays"), api.ErrText}, {replaced("1 0 stays", "-1 0 stays"), api.ErrText}, {replaced("1 0 stays", "1 x stays"), api.ErrText}, {replaced("1 0 stays", "1 1. stays"), api.ErrText}, {replaced("1 0 stays", "1 / stays"), api.ErrText}, {replaced("1 0 stays", "1 : stays"), api.ErrText}, {replaced("1 0 stays", "1 \u0661 stays"), api.ErrText}, {replaced("1 0 stays", "1 \xff stays"), api.ErrText}, {replaced("1 0 stays", "1 1000000 stays"), api.ErrText}, {replaced("1 0 stays", "0000001 0 stays"), api.ErrText}, {replaced("1 0 stays", "18446744073709551617 0 stays"), api.ErrText}, {replaced("1 0 stays", "1 18446744073709551616 stays"), api.ErrText},
		{replaced("90 15", "090 15"), api.ErrText}, {replaced("90 15", "90 015"), api.ErrText}, {replaced("90 15", "1000000 15"), api.ErrText}, {replaced("90 15", "90 1000000"), api.ErrText}, {replaced("90 15", "90 -15"), api.ErrText}, {replaced("90 15", "9x 15"), api.ErrText}, {replaced("90 15", "18446744073709551706 15"), api.ErrText},
		{replaced("15 0 1", "15 1 0"), api.ErrText}, {replaced("15 0 1", "15 0 1 1"), api.ErrText}, {replaced("15 0 1", "15 0 0 1"), api.ErrText}, {replaced("15 0 1", "15 00 1"), api.ErrText}, {replaced("15 0 1", "15 0 01"), api.ErrText}, {replaced("15 0 1", "15 0 10"), api.ErrText}, {replaced("15 0 1", "15 0 11"), api.ErrText}, {replaced("15 0 1", "15 0 1 63"), api.ErrText}, {replaced("15 0 1", "15 0 1 64"), api.ErrText}, {replaced("15 0 1", "15 0 x"), api.ErrText}, {replaced("15 0 1", "15 0 -1"), api.ErrText}, {replaced("15 0 1", "15 0 1 2 4 3"), api.ErrText},
		// the check
		{strings.Replace(textX, "044", "045", 1), api.ErrText}, {strings.Replace(textX, "044", "043", 1), api.ErrText}, {strings.Replace(textX, "044", "44", 1), api.ErrText}, {strings.Replace(textX, "044", "0044", 1), api.ErrText}, {strings.Replace(textX, "044", "157", 1), api.ErrText}, {strings.Replace(textX, "044", "", 1), api.ErrText}, {strings.Replace(textX, " 044", "", 1), api.ErrText}, {strings.Replace(textX, "044", "04x", 1), api.ErrText}, {strings.Replace(textX, "044", "044 ", 1), api.ErrText}, {strings.Replace(textX, "end ", "end  ", 1), api.ErrText}, {strings.Replace(textX, "end", "End", 1), api.ErrText}, {strings.Replace(textX, "end ", "end", 1), api.ErrText}, {strings.Replace(textX, "90", "91", 1), api.ErrText}, {strings.Replace(textX, "0 1\nend", "2 1\nend", 1), api.ErrText},
		// the form is right, and the season is not as defined
		{of(0, 0, "", ""), api.ErrArg}, {of(0, 1, "", "landing 9 5 0"), api.ErrArg}, {of(1, 0, person, ""), api.ErrArg}, {of(1, 1, person, "landing 9 5 0"), api.ErrArg}, {of(7, 0, person, ""), api.ErrArg}, {of(20, 0, person, ""), api.ErrArg}, {of(2, 7, person, landing), api.ErrArg}, {of(2, 20, person, landing), api.ErrArg}, {of(2, 7, person, "landing 0 0"), api.ErrArg},
		{replaced("1 0 stays", "0 0 stays"), api.ErrArg}, {replaced("1 0 stays", "23 0 stays"), api.ErrArg}, {replaced("1 0 stays", "999999 0 stays"), api.ErrArg}, {replaced("1 0 stays", "1 1 stays"), api.ErrArg}, {replaced("stays", "dies"), api.ErrArg}, {replaced("stays", "deserts"), api.ErrArg}, {replaced("2 7", "0 7"), api.ErrArg}, {replaced("2 7", "24 7"), api.ErrArg}, {replaced("2 7", "2 100001"), api.ErrArg}, {replaced("2 7", "2 999999"), api.ErrArg},
		{replaced("90 15", "100001 15"), api.ErrArg}, {replaced("90 15", "999999 15"), api.ErrArg}, {replaced("90 15", "90 100001"), api.ErrArg}, {replaced(" 0 1\n", "\n"), api.ErrArg}, {replaced("15 0 1", "15 1"), api.ErrArg}, {replaced("15 0 1", "15 0 1 2"), api.ErrArg}, {replaced("15 0 1", "15 0 9"), api.ErrArg}, {replaced("15 0 1", "15 9"), api.ErrArg}, {replaced("15 0 1", "15 0 1 2 3 4 5 6 7 8 9"), api.ErrArg},
		{replaced("90 15", "100000 100000"), api.OK}, {replaced("2 7", "23 100000"), api.OK}, {replaced("dies", "stays"), api.OK}, {replaced("dies", "deserts"), api.OK}, {replaced("15 0 1", "15 0"), api.OK},
		{strings.Replace(replaced("2 7", "24 7"), "end ", "end 9", 1), api.ErrText},
	} {
		got, e := share.Read(x.text)
		if e != x.want || e != api.OK && !equal(got, api.ShareSeason{}) {
			t.Errorf("%d %q %v %v", i, x.text, got, e)
		}
	}
}
