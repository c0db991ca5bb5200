package gas_test

import (
	"math/rand"
	"strconv"
	"strings"
	"testing"

	"bathyal/api"
	"bathyal/gas"
)

// slipW is the slip of the dive w of the chapter.
const slipW = "dive 1\nstage 9 10 3 4\nend 12\n"

// checked returns lines with the line end that belongs to them.
func checked(lines string) string {
	sum := 0
	for i, line := range strings.Split(lines, "\n") {
		place := 0
		for _, word := range strings.Split(line, " ") {
			if n, err := strconv.Atoi(word); err == nil {
				place++
				sum += (i + 1) * place * n
			}
		}
	}
	check := strconv.Itoa(100 + sum%97)
	return lines + "end " + check[1:] + "\n"
}

// P2.10
func TestPrint(t *testing.T) {
	deepest := at(sp(34, 40), sp(114, 120))
	for i, x := range []struct {
		dive []api.GasStage
		want string
	}{
		{nil, "dive 0\nend 00\n"},
		{diveW(), slipW},
		// 1, and 2 times 10, 20, 9 and 12, make 103
		{diveV(), "dive 1\nstage 10 10 3 3\nend 06\n"},
		// 2, and 2 times 9, 20, 9 and 16, and 3 times 4, 10, 0 and 24, make 224
		{dive(diveW()[0], at(sp(4, 5), sp(0, 6))), "dive 2\nstage 9 10 3 4\nstage 4 5 0 6\nend 30\n"},
		{resting(api.GasStages), "dive 4\n" + strings.Repeat("stage 0 0 0 0\n", 4) + "end 04\n"},
		{dive(deepest, deepest, deepest, deepest), checked("dive 4\n" + strings.Repeat("stage 34 40 114 120\n", 4))},
	} {
		if got, e := gas.Print(x.dive); e != api.OK || got != x.want {
			t.Errorf("%d %q %v", i, got, e)
		}
	}
	for i, x := range badDives() {
		if got, e := gas.Print(x); e != api.ErrArg || got != "" {
			t.Errorf("%d %q %v", i, got, e)
		}
	}
}

// anySlip returns any dive and its slip.
func anySlip(t *testing.T, r *rand.Rand) ([]api.GasStage, string) {
	var all []api.GasStage
	for range r.Intn(api.GasStages + 1) {
		all = append(all, at(span(r, 0, api.GasDepth, api.GasWide), span(r, 0, api.GasMinutes, api.GasWide)))
	}
	text, e := gas.Print(all)
	if e != api.OK {
		t.Fatal(all, e)
	}
	return all, text
}

// P2.10, P0.11: what was written is read as what was written
func TestReadOfWritten(t *testing.T) {
	r := source(11)
	for range 2000 {
		x, text := anySlip(t, r)
		if body := text[:strings.Index(text, "end")]; text != checked(body) {
			t.Fatal(x, text)
		}
		if got, e := gas.Read(text); e != api.OK || !equal(got, x) {
			t.Fatal(x, text, got, e)
		}
	}
}

// P2.10: a digit that was changed is noticed
func TestReadOfChanged(t *testing.T) {
	r := source(12)
	for range 300 {
		_, text := anySlip(t, r)
		for i := range len(text) {
			if text[i] < '0' || text[i] > '9' {
				continue
			}
			for digit := byte('0'); digit <= '9'; digit++ {
				if digit == text[i] {
					continue
				}
				changed := text[:i] + string(rune(digit)) + text[i+1:]
				if got, e := gas.Read(changed); e != api.ErrText || len(got) != 0 {
					t.Fatal(changed, got, e)
				}
			}
		}
	}
}

// P2.10
func TestReadErrors(t *testing.T) {
	const head, stage = "dive 1\n", "stage 9 10 3 4\n"
	const zeros = "stage 0 0 0 0\n"
	replaced := func(old, new string) string { return checked(strings.Replace(head+stage, old, new, 1)) }
	if checked(head+stage) != slipW {
		t.Fatal(checked(head + stage))
	}
	for i, x := range []struct {
		text string
		want api.Errno
	}{
		{slipW, api.OK}, {checked("dive 0\n"), api.OK}, {checked("dive 4\n" + strings.Repeat(stage, 4)), api.OK},
		{strings.Repeat("x", api.GasText+1), api.ErrLong}, {checked("dive 14\n" + strings.Repeat(zeros, 14)), api.ErrLong},
		{strings.Repeat("x", api.GasText), api.ErrText},
		{"", api.ErrText}, {"\n", api.ErrText}, {"\n\n", api.ErrText}, {"end 00\n", api.ErrText}, {"dive 0\n", api.ErrText},
		{checked("\n"), api.ErrText}, {checked(stage), api.ErrText}, {checked(stage + head), api.ErrText}, {checked(head + head + stage), api.ErrText}, {checked(head + "\n" + stage), api.ErrText},
		{slipW[1:], api.ErrText}, {slipW + "\n", api.ErrText}, {"\n" + slipW, api.ErrText}, {strings.TrimSuffix(slipW, "\n"), api.ErrText}, {slipW + slipW, api.ErrText}, {slipW + "x", api.ErrText}, {head + stage, api.ErrText},
		{strings.ReplaceAll(slipW, "\n", "\r\n"), api.ErrText},
		// the number of stages
		{replaced("dive 1", "dive 0"), api.ErrText}, {replaced("dive 1", "dive 2"), api.ErrText}, {replaced("dive 1", "dive 01"), api.ErrText}, {checked(head), api.ErrText}, {checked(head + stage + stage), api.ErrText},
		// the check
		{strings.Replace(slipW, "12", "13", 1), api.ErrText}, {strings.Replace(slipW, "end 12", "end 109", 1), api.ErrText}, {strings.Replace(slipW, "end 12", "end 012", 1), api.ErrText}, {strings.Replace(slipW, "end 12", "end", 1), api.ErrText},
		{"dive 0\nend 0\n", api.ErrText}, {"dive 0\nend 01\n", api.ErrText}, {"dive 0\nend 97\n", api.ErrText}, {"dive 0\nend 000\n", api.ErrText}, {"dive 0\nend 00 \n", api.ErrText}, {"dive 0\nEnd 00\n", api.ErrText}, {"dive 0\nend  00\n", api.ErrText},
		// words and blanks
		{replaced("dive", "Dive"), api.ErrText}, {replaced("dive", "dives"), api.ErrText}, {replaced("stage", "stages"), api.ErrText}, {replaced("stage", "Stage"), api.ErrText}, {replaced("stage 9", "9 stage"), api.ErrText}, {replaced("stage ", ""), api.ErrText},
		{replaced("stage ", "stage  "), api.ErrText}, {replaced("stage ", "stage\t"), api.ErrText}, {replaced("stage", " stage"), api.ErrText}, {replaced("3 4", "3 4 "), api.ErrText}, {replaced("dive 1", "dive 1 "), api.ErrText}, {replaced("dive 1", "dive 1 1"), api.ErrText}, {replaced("dive 1", "dive"), api.ErrText}, {replaced("3 4", "3"), api.ErrText}, {replaced("3 4", "3 4 5"), api.ErrText},
		// numbers
		{replaced(" 3", " 03"), api.ErrText}, {replaced(" 3", " +3"), api.ErrText}, {replaced(" 3", " -3"), api.ErrText}, {replaced(" 3", " "), api.ErrText}, {replaced(" 3", " x"), api.ErrText}, {replaced(" 3", " 0x3"), api.ErrText}, {replaced(" 3", " 3_0"), api.ErrText}, {replaced(" 3", " 3."), api.ErrText}, {replaced(" 3", " \xff"), api.ErrText}, {replaced(" 3", " \u0663"), api.ErrText}, {replaced(" 3 4", " 00 4"), api.ErrText}, {replaced("3 4", "3 1000"), api.ErrText}, {replaced("3 4", "3 "+strings.Repeat("9", 30)), api.ErrText}, {replaced(" 3", " :"), api.ErrText}, {replaced(" 3", " /"), api.ErrText},
		// the form is right, and the dive is not as defined
		// 1, and 2 times 41, 82, 3 and 4, make 261, which is 2 times 97 and 67
		{"dive 1\nstage 41 41 1 1\nend 67\n", api.ErrArg}, {"dive 1\nstage 41 41 1 1\nend 68\n", api.ErrText},
		{replaced("9 10", "9 16"), api.ErrArg}, {replaced("9 10", "10 9"), api.ErrArg}, {replaced("3 4", "4 3"), api.ErrArg}, {replaced("3 4", "3 10"), api.ErrArg}, {replaced("3 4", "120 121"), api.ErrArg}, {replaced("3 4", "999 999"), api.ErrArg},
		{checked("dive 5\n" + strings.Repeat(stage, 5)), api.ErrArg}, {checked("dive 13\n" + strings.Repeat(zeros, 13)), api.ErrArg},
	} {
		got, e := gas.Read(x.text)
		if e != x.want || e != api.OK && len(got) != 0 {
			t.Errorf("%d %q %v %v", i, x.text, got, e)
		}
	}
}
