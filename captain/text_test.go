package captain_test

import (
	"math/rand"
	"slices"
	"strings"
	"testing"

	"bathyal/api"
	"bathyal/captain"
)

// P10.7
func TestWrite(t *testing.T) {
	for i, x := range []struct {
		act  api.CaptainAct
		line string
	}{
		{cut(0, 4), "cut 0 4"}, {cut(0, 0), "cut 0 0"}, {cut(api.CaptainNumber, 10), "cut 999999 10"}, {dive(0, 9, 10, 3, 4), "dive 0 9 10 3 4"}, {dive(7, 1, 2, 3, 4, 5, 6, 7, 8), "dive 7 1 2 3 4 5 6 7 8"}, {land(130, 30, 0), "land 130 30 0"}, {land(api.CaptainNumber, 0, 7, 3), "land 999999 0 7 3"}, {sorted(1, 5, 25), "sort 1 5 25"}, {sell(0, 0, 1), "sell 0 0 1"}, {fate(2, 9), "fate 2 9"},
		// acts that nobody does, and lines that are as long as there can be
		{dive(append(l(0), slices.Repeat(l(0), 4*api.GasStages+4)...)...), "dive 0" + strings.Repeat(" 0", 20)}, {land(append(l(1, 2), slices.Repeat(l(3), 56)...)...), "land 1 2" + strings.Repeat(" 3", 56)}, {land(append(l(10, 22), slices.Repeat(l(3), 55)...)...), "land 10 22" + strings.Repeat(" 3", 55)},
	} {
		if line, e := captain.Write(x.act); e != api.OK || line != x.line {
			t.Errorf("%d %q %v", i, line, e)
		}
		if a, e := captain.Parse(x.line); e != api.OK || !equal(a, x.act) {
			t.Error(i, a, e)
		}
	}
	for i, a := range acts(
		api.CaptainAct{}, act(0, 1, 2), act(-1, 1, 2), act(7, 1, 2, 3), act(most, 1), act(least, 1),
		cut(), cut(0), cut(0, 1, 2), cut(0, -1), cut(-1, 0), cut(0, api.CaptainNumber+1), cut(0, most), cut(least, 0),
		dive(), dive(0), dive(0, 1), dive(0, 1, 2, 3), dive(0, 1, 2, 3, 4, 5), dive(0, 1, 2, 3, -4), dive(1, 2, 3, 4),
		land(), land(1), land(1, 2), land(1, 2, -1), sorted(1, 2), sorted(1, 2, 3, 4), sell(1, 2), sell(1, 2, 3, 4), fate(1), fate(1, 2, 3),
		// not formed, and too long
		land(append(slices.Repeat(l(1), 60), -1)...), dive(slices.Repeat(l(1), 100)...), sorted(slices.Repeat(l(1), 100)...),
	) {
		if line, e := captain.Write(a); e != api.ErrArg || line != "" {
			t.Errorf("%d %q %v", i, line, e)
		}
	}
	for i, a := range acts(land(append(l(10, 2), slices.Repeat(l(3), 56)...)...), land(slices.Repeat(l(1), 59)...), land(slices.Repeat(l(api.CaptainNumber), 17)...), dive(slices.Repeat(l(0), 61)...), land(slices.Repeat(l(1), 1<<20)...)) {
		if line, e := captain.Write(a); e != api.ErrLong || line != "" {
			t.Errorf("%d %d %v", i, len(line), e)
		}
	}
}

// P10.7
func TestParse(t *testing.T) {
	for i, line := range []string{
		"", " ", "\n", "cut", "cut ", "cut 1", "cut 1 ", "cut 1 2 ", " cut 1 2", "cut  1 2", "cut 1  2", "cut 1 2 3", "cut 1 2\n", "\ncut 1 2", "cut 1\n2", "cut\t1 2", "cut 1\t2", "cut 1 2\r", "cut 1 2\x00", "\x00", "cut1 2", "1 2", "0", "Cut 1 2", "CUT 1 2", "cuts 1 2", "cu 1 2", "cut,1,2",
		"cut 1 02", "cut 00 2", "cut 0 00", "cut 1 -2", "cut -0 2", "cut 1 +2", "cut 1 2.0", "cut 1 1e2", "cut 1 0x2", "cut 1 1_0", "cut 1 a", "cut 1 2a", "cut 1 \u0662", "cut 1 \xff", "cut 1 \uff12", "cut 1 1000000", "cut 1 0999999", "cut 1 9999999", "cut 1 4294967297", "cut 1 18446744073709551617", "cut 1 " + strings.Repeat("1", 100), "cut 1 " + strings.Repeat("0", 100),
		"dive", "dive 1", "dive 1 2", "dive 1 2 3 4", "dive 1 2 3 4 5 6", "dive 1 2 3 4 5 6 7 8", "land", "land 1", "land 1 2", "sort 1 2", "sort 1 2 3 4", "sell 1 2", "sell 1 2 3 4", "fate 1", "fate 1 2 3",
		"box", "most 0", "stop 0", "held 0", "end 0", "end 039", "stock", "sure", "best", "could 1 5 25", "done", "none", "no", "no 4", "?", strings.Repeat("x", api.CaptainLine), strings.Repeat(" ", api.CaptainLine), "dive 0" + strings.Repeat(" 0", 57), "cut 1 2" + strings.Repeat(" ", 113),
	} {
		if a, e := captain.Parse(line); e != api.ErrText || a.Kind != 0 || len(a.Numbers) != 0 {
			t.Errorf("%d %q %v %v", i, line, a, e)
		}
	}
	for i, line := range []string{strings.Repeat("1", api.CaptainLine+1), "land 10 2" + strings.Repeat(" 3", 56), "cut 1 2" + strings.Repeat(" ", 114), strings.Repeat("x", 1<<20), strings.Repeat("\n", 121), "land" + strings.Repeat(" 1", 1<<16)} {
		if a, e := captain.Parse(line); e != api.ErrLong || a.Kind != 0 || len(a.Numbers) != 0 {
			t.Error(i, a, e)
		}
	}
}

// anyFormed returns an act that is formed, be it one that can be done or not.
func anyFormed(r *rand.Rand) api.CaptainAct {
	kind := api.CaptainKind(anyOf(r, 1, 6))
	many := []int{0, 2, 1 + 4*anyOf(r, 1, 3), anyOf(r, 3, 15), 3, 3, 2}[kind]
	a := act(kind)
	for range many {
		top := l(1, 9, 40, 999, api.CaptainNumber)[r.Intn(5)]
		a.Numbers = append(a.Numbers, anyOf(r, 0, top))
	}
	return a
}

// P10.7, P0.11: what was written is parsed as what was written
func TestParseOfWritten(t *testing.T) {
	r := source(4)
	met := map[int]int{}
	for range 20000 {
		a := anyFormed(r)
		line, e := captain.Write(a)
		if want := written(a); e != api.OK && len(want) <= api.CaptainLine || e == api.OK && line != want {
			t.Fatal(a, line, e)
		}
		if e != api.OK {
			continue
		}
		if b, e := captain.Parse(line); e != api.OK || !equal(a, b) {
			t.Fatal(line, b, e)
		}
		met[int(a.Kind)]++
		met[-len(line)]++
	}
	wantAll(t, met, 1, 2, 3, 4, 5, 6, -7, -20, -60)
}

// P10.7: what is parsed is written the same, and it is a line of an act by its form
func TestWriteOfParsed(t *testing.T) {
	r := source(5)
	met := map[api.Errno]int{}
	check := func(line string) {
		a, e := captain.Parse(line)
		want := api.ErrText
		switch {
		case len(line) > api.CaptainLine:
			want = api.ErrLong
		case actLine.MatchString(line):
			want = api.OK
		}
		if e != want {
			t.Fatalf("%q %v %v", line, e, want)
		}
		again, f := captain.Write(a)
		if e == api.OK && (f != api.OK || again != line) || e != api.OK && (a.Kind != 0 || len(a.Numbers) != 0) {
			t.Fatalf("%q %q %v %v", line, again, a, f)
		}
		met[e]++
	}
	for range 3000 {
		line := written(anyFormed(r))
		i := r.Intn(len(line))
		check(line)
		check(line[:i])
		check(line[i:])
		check(line[:i] + line[i+1:])
		for _, more := range []string{" ", "0", "1", "7", "\n", "-", " 0", " 1 2", " 1 2 3 4", "cut", line, strings.Repeat("0", 121)} {
			check(line[:i] + more + line[i:])
			check(line[:i] + more + line[i+1:])
		}
	}
	for range 200 {
		line := written(anyFormed(r))
		for i := range len(line) {
			for b := range 256 {
				check(line[:i] + string([]byte{byte(b)}) + line[i+1:])
			}
		}
	}
	wantAll(t, met, api.OK, api.ErrText, api.ErrLong)
}
