package beds_test

import (
	"math/rand"
	"strconv"
	"strings"
	"testing"

	"bathyal/api"
	"bathyal/beds"
)

// idleText is the text of the chapter.
const idleText = "ground 1 1\nbed 0 0 0 0 0 0 0 0 grow 0 0 full 0 leave 0 within 1\nend 031\n"

// checked returns lines with the line end that belongs to them.
func checked(lines string) string {
	sum := 0
	for _, line := range strings.Split(lines, "\n") {
		for i := range len(line) {
			sum += int(line[i]) * (i + 1)
		}
	}
	check := strconv.Itoa(1000 + sum%109)
	return lines + "end " + check[1:] + "\n"
}

// anyGround returns a ground of any size.
func anyGround(r *rand.Rand) api.BedsGround {
	g := groundOf(1+r.Intn(4), 1+r.Intn(4))
	for range 1 + r.Intn(4) {
		b := largeBed(r)
		b.Full = r.Intn(api.BedsClasses*api.BedsPieces + 1)
		b.Leave = r.Intn(b.Full + 1)
		g.Beds = append(g.Beds, b)
	}
	return g
}

// P1.9
func TestPrint(t *testing.T) {
	idle := api.BedsBed{Start: make([]api.Span, 4), Within: 1}
	full := bedWith(func(b *api.BedsBed) {
		b.Start = []api.Span{sp(200, 200), sp(200, 200), sp(200, 200), sp(200, 200)}
		b.Low, b.High, b.Full, b.Leave, b.Within = 100, 100, 800, 800, 6
	})
	const a = "bed 0 0 10 12 10 10 20 22 grow 50 100 full 20 leave 10 within 2\n"
	const f = "bed 200 200 200 200 200 200 200 200 grow 100 100 full 800 leave 800 within 6\n"
	for i, x := range []struct {
		g    api.BedsGround
		want string
	}{
		{groundOf(1, 1, idle), idleText},
		{groundG(), checked("ground 1 2\n" + a + a)},
		{groundOf(3, 4, bedA(), idle), checked("ground 3 4\n" + a + strings.Split(idleText, "\n")[1] + "\n")},
		{groundOf(4, 4, full, full, full, full), checked("ground 4 4\n" + f + f + f + f)},
	} {
		if got, e := beds.Print(x.g); e != api.OK || got != x.want {
			t.Errorf("%d %q %v", i, got, e)
		}
	}
	for i, g := range badGrounds() {
		if got, e := beds.Print(g); e != api.ErrArg || got != "" {
			t.Errorf("%d %q %v", i, got, e)
		}
	}
}

// P1.9, P0.11: what was written is read as what was written
func TestReadOfWritten(t *testing.T) {
	r := source(12)
	for range 500 {
		g := anyGround(r)
		text, e := beds.Print(g)
		got, f := beds.Read(text)
		if e != api.OK || f != api.OK || !equal(got, g) {
			t.Fatal(g, text, e, got, f)
		}
	}
}

// P1.9: one digit that was changed is noticed
func TestReadOfChanged(t *testing.T) {
	r := source(13)
	for range 100 {
		text, e := beds.Print(anyGround(r))
		if e != api.OK {
			t.Fatal(e)
		}
		for i := range len(text) {
			if text[i] < '0' || text[i] > '9' {
				continue
			}
			for digit := byte('0'); digit <= '9'; digit++ {
				if digit == text[i] {
					continue
				}
				changed := text[:i] + string(rune(digit)) + text[i+1:]
				if g, e := beds.Read(changed); e != api.ErrText || !equal(g, api.BedsGround{}) {
					t.Fatal(changed, g, e)
				}
			}
		}
	}
}

// P1.9
func TestReadErrors(t *testing.T) {
	const head, bed = "ground 1 1\n", "bed 0 0 0 0 0 0 0 0 grow 0 0 full 0 leave 0 within 1\n"
	replaced := func(old, new string) string { return checked(strings.Replace(head+bed, old, new, 1)) }
	if checked(head+bed) != idleText {
		t.Fatal(checked(head + bed))
	}
	for i, x := range []struct {
		text string
		want api.Errno
	}{
		{idleText, api.OK},
		{checked(head + bed + bed + bed + bed), api.OK},
		{strings.Repeat("x", api.BedsText+1), api.ErrLong},
		{checked(head + strings.Repeat(bed, 8)), api.ErrLong},
		{strings.Repeat("x", api.BedsText), api.ErrText},
		{"", api.ErrText}, {"\n", api.ErrText}, {"\n\n", api.ErrText}, {"end 000\n", api.ErrText},
		{checked("\n"), api.ErrText}, {checked(bed), api.ErrText}, {checked(bed + head), api.ErrText}, {checked(head + head + bed), api.ErrText}, {checked(head + "\n" + bed), api.ErrText},
		{idleText[1:], api.ErrText}, {idleText + "\n", api.ErrText}, {"\n" + idleText, api.ErrText}, {strings.TrimSuffix(idleText, "\n"), api.ErrText}, {idleText + idleText, api.ErrText}, {head + bed, api.ErrText},
		{strings.ReplaceAll(idleText, "\n", "\r\n"), api.ErrText},
		// the check
		{strings.Replace(idleText, "031", "032", 1), api.ErrText}, {strings.Replace(idleText, "031", "140", 1), api.ErrText}, {strings.Replace(idleText, "031", "31", 1), api.ErrText}, {strings.Replace(idleText, "031", "0031", 1), api.ErrText}, {strings.Replace(idleText, "end", "END", 1), api.ErrText}, {strings.Replace(idleText, "end ", "end  ", 1), api.ErrText}, {strings.Replace(idleText, "031", "031 ", 1), api.ErrText},
		// words and blanks
		{replaced("ground", "Ground"), api.ErrText}, {replaced("grow", "grew"), api.ErrText}, {replaced("full", "fill"), api.ErrText}, {replaced("leave", "leafs"), api.ErrText}, {replaced("within", "in"), api.ErrText}, {replaced("bed 0", "0 bed"), api.ErrText},
		{replaced("bed ", "bed  "), api.ErrText}, {replaced("bed ", "bed\t"), api.ErrText}, {replaced("bed", " bed"), api.ErrText}, {replaced("within 1", "within 1 "), api.ErrText}, {replaced("within 1", "within"), api.ErrText}, {replaced("within 1", "within 1 1"), api.ErrText}, {replaced("bed 0", "bed"), api.ErrText}, {replaced("bed 0", "bed 0 0"), api.ErrText}, {replaced("ground 1 1", "ground 1"), api.ErrText}, {replaced("ground 1 1", "ground 1 1 1"), api.ErrText},
		// numbers
		{replaced("full 0", "full 00"), api.ErrText}, {replaced("full 0", "full 01"), api.ErrText}, {replaced("full 0", "full +0"), api.ErrText}, {replaced("full 0", "full -1"), api.ErrText}, {replaced("full 0", "full "), api.ErrText}, {replaced("full 0", "full x"), api.ErrText}, {replaced("full 0", "full #"), api.ErrText}, {replaced("full 0", "full 0x1"), api.ErrText}, {replaced("full 0", "full 1_0"), api.ErrText}, {replaced("full 0", "full 10000"), api.ErrText}, {replaced("full 0", "full 9;"), api.ErrText}, {replaced("full 0", "full \xff"), api.ErrText},
		// the form is right, and the ground is not as defined
		{replaced("full 0", "full 9999"), api.ErrArg}, {replaced("within 1", "within 7"), api.ErrArg}, {replaced("within 1", "within 0"), api.ErrArg}, {replaced("bed 0 0", "bed 1 0"), api.ErrArg}, {replaced("leave 0", "leave 1"), api.ErrArg}, {replaced("ground 1", "ground 0"), api.ErrArg}, {replaced("ground 1 1", "ground 1 5"), api.ErrArg},
		{checked(head), api.ErrArg}, {checked(head + strings.Repeat(bed, 5)), api.ErrArg}, {checked(head + strings.Repeat(bed, 7)), api.ErrArg},
		// what is wrong in two ways
		{strings.Replace(replaced("within 1", "within 7"), "end ", "end 9", 1), api.ErrText},
	} {
		g, e := beds.Read(x.text)
		if e != x.want || e != api.OK && !equal(g, api.BedsGround{}) {
			t.Errorf("%d %q %v %v", i, x.text, g, e)
		}
	}
}
