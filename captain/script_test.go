package captain_test

import (
	"math/rand"
	"slices"
	"strconv"
	"strings"
	"testing"

	"bathyal/api"
	"bathyal/captain"
)

// P10.2, P10.3, P10.9: the examples of the chapter
func TestChapter(t *testing.T) {
	answered(t, suiteS(),
		said{"most 0", "10"}, said{"cut 0 11", "no 7"}, said{"cut 0 4", "done"}, said{"most 0", "0"},
		said{"dive 0 9 10 3 4", "no 7"}, said{"dive 0 10 10 3 3", "done"}, said{"stop 0", "0 0"}, said{"held 0", "1487 1487 1105 1130"},
		said{"land 130 30 0 1 2", "no 7"}, said{"dive 1 9 10 3 4", "done"}, said{"land 130 30 0 1 2", "done"}, said{"fate 2 2", "done"}, said{"end 1", "40 40 0 0 0"}, said{"end 0", "60 0 100 0 0"},
		said{"sort 1 5 25", "done"}, said{"sort 1 9 21", "no 7"}, said{"sort 1 15 30", "done"}, said{"stock", "1 1"}, said{"sell 0 0 1", "done"}, said{"sure", "80 98"}, said{"best", "0 0 0 1 30 30"}, said{"could 1 9 21", "0 1"}, said{"box", "0"}, said{"sell 0 0 1", "no 7"}, said{"dive 9", "no 4"},
	)
}

// P10.8
func TestJournal(t *testing.T) {
	c := opened(t, suiteS())
	if j := journalOf(t, c); j != "" {
		t.Errorf("%q", j)
	}
	want := ""
	for _, line := range []string{"cut 0 4", "dive 0 10 10 3 3", "sort 1 5 25", "dive 1 0 0 0 0 9 10 3 4", "land 130 30 0 1 2", "fate 2 3", "sell 1 0 1", "land 0 100000 0"} {
		a, e := captain.Parse(line)
		if e != api.OK || c.Act(a) != api.OK {
			t.Fatal(line, e)
		}
		refuses(t, c, api.ErrRule, cut(0, 1), sorted(1, 9, 21), sell(0, 1, 1))
		refuses(t, c, api.ErrArg, cut(0), cut(1, 1), act(0))
		want += line + "\n"
		if j := journalOf(t, c); j != want {
			t.Errorf("%q %q", j, want)
		}
	}
}

// P10.8
func TestReplay(t *testing.T) {
	j := "cut 0 4\nsort 1 5 25\n"
	for _, s := range goodSuites() {
		if c, at, e := captain.Replay(s, ""); e != api.OK || at != -1 || c == nil || journalOf(t, c) != "" {
			t.Error(s, c, at, e)
		}
	}
	c, at, e := captain.Replay(suiteS(), j)
	if e != api.OK || at != -1 || c == nil {
		t.Fatal(at, e)
	}
	if !slices.Equal(answersOf(t, c), answersOf(t, played(t, suiteS(), cut(0, 4), sorted(1, 5, 25)))) || journalOf(t, c) != j {
		t.Error(answersOf(t, c))
	}
	lands, full := strings.Repeat("land 1 0 0\n", 6), journalOf(t, filled(t))
	for i, x := range []struct {
		journal string
		at      int
		e       api.Errno
	}{
		// lines that are not ended, or none of an act, or too long
		{"cut 0 4", 0, api.ErrText}, {j + "cut 0 4", 2, api.ErrText}, {j[:len(j)-1], 1, api.ErrText}, {j + "x", 2, api.ErrText}, {j + "box\n", 2, api.ErrText}, {j + "\n", 2, api.ErrText}, {"\n" + j, 0, api.ErrText}, {"\n", 0, api.ErrText}, {j + " \n", 2, api.ErrText}, {"cut 0 4\n\nsort 1 5 25\n", 1, api.ErrText}, {strings.ReplaceAll(j, "\n", "\r\n"), 0, api.ErrText}, {j + strings.Repeat("x", 130) + "\n", 2, api.ErrText}, {j + strings.Repeat("x", 2900), 2, api.ErrText}, {"cut 0 04\n", 0, api.ErrText}, {"done\n", 0, api.ErrText}, {"land 10 2" + strings.Repeat(" 3", 56) + "\n", 0, api.ErrText},
		// acts that are not done
		{j + "cut 0 4\n" + j, 2, api.ErrRule}, {j + "cut 1 4\n", 2, api.ErrArg}, {"sort 1 5 25\n", 0, api.ErrRule}, {"cut 0 11\n", 0, api.ErrRule}, {lands + "land 1 0 0\n", 6, api.ErrArg}, {full + "cut 0 4\n", 24, api.ErrLong}, {full + "fate 1 2\nbox\n", 24, api.ErrLong}, {"land 1 2" + strings.Repeat(" 3", 56) + "\n", 0, api.ErrArg},
		// the first line counts
		{"cut 0 4\ncut 0 4\nbox\n", 1, api.ErrRule}, {"cut 0 4\nbox\ncut 0 4\n", 1, api.ErrText}, {"cut 0 11\ncut 1 4\n", 0, api.ErrRule}, {"cut 0 4\ncut 0 4", 1, api.ErrText}, {"cut 0 11\ncut 0 4", 0, api.ErrRule}, {full + "box\n", 24, api.ErrText}, {full + "fate 1 2", 24, api.ErrText},
		// the whole journal is too long
		{strings.Repeat("x", api.CaptainText+1), 0, api.ErrLong}, {j + strings.Repeat("\n", api.CaptainText), 0, api.ErrLong}, {strings.Repeat("cut 0 11\n", 1000), 0, api.ErrLong}, {strings.Repeat("x", api.CaptainText), 0, api.ErrText}, {j + strings.Repeat("\n", api.CaptainText-len(j)), 2, api.ErrText},
	} {
		if c, at, e := captain.Replay(suiteS(), x.journal); e != x.e || at != x.at || c != nil {
			t.Error(i, c, at, e)
		}
	}
	for i, s := range badSuites() {
		for _, journal := range []string{"", j, "x", strings.Repeat("x", api.CaptainText+1)} {
			if c, at, e := captain.Replay(s, journal); e != api.ErrArg || at != 0 || c != nil {
				t.Error(i, c, at, e)
			}
		}
	}
}

// P10.8, P0.10: a journal that is played again gives a captain who answers the same, with the same journal, now and later
func TestReplayOfAny(t *testing.T) {
	r := source(6)
	longest := 0
	for range 300 {
		m, done := anySeason(r, 60)
		c := played(t, m.s, done...)
		j := journalOf(t, c)
		b, at, e := captain.Replay(m.s, j)
		if e != api.OK || at != -1 {
			t.Fatal(m.s, j, at, e)
		}
		if x, y := answersOf(t, b), answersOf(t, c); !slices.Equal(x, y) {
			t.Fatal(m.s, x, y)
		}
		for range 10 {
			a := anyAct(r, m)
			if e, f := b.Act(a), c.Act(a); e != f {
				t.Fatal(m.s, j, a, e, f)
			}
		}
		if x, y := answersOf(t, b), answersOf(t, c); !slices.Equal(x, y) {
			t.Fatal(m.s, x, y)
		}
		longest = max(longest, len(done))
	}
	if longest != api.CaptainActs {
		t.Error(longest)
	}
}

// P10.8: a journal of which lines were changed, or are in another order, stops at the first one that is not done
func TestReplayOfChanged(t *testing.T) {
	r := source(7)
	met := map[api.Errno]int{}
	for range 1500 {
		m, _ := anySeason(r, 30)
		lines := slices.Clone(m.lines)
		r.Shuffle(len(lines), func(i, k int) { lines[i], lines[k] = lines[k], lines[i] })
		for i := range lines {
			switch r.Intn(40) {
			case 0:
				lines[i] = anyLine(r, m)
			case 1:
				lines[i] = lines[r.Intn(len(lines))]
			}
		}
		journal := strings.Join(append(lines, ""), "\n")
		again, want, at := newModel(m.s), api.OK, -1
		for i, line := range lines {
			a, e := captain.Parse(line)
			if e != api.OK {
				e = api.ErrText
			} else {
				e = again.act(a)
			}
			if e != api.OK {
				want, at = e, i
				break
			}
		}
		c, n, e := captain.Replay(m.s, journal)
		if e != want || n != at || (c == nil) != (e != api.OK) || c != nil && journalOf(t, c) != journal {
			t.Fatal(m.s, journal, n, e, at, want)
		}
		met[e]++
	}
	wantAll(t, met, api.OK, api.ErrText, api.ErrArg, api.ErrRule)
}

// P10.9
func TestConsole(t *testing.T) {
	// nothing was done
	answered(t, suiteS(), said{"stock", "0 0"}, said{"sure", "0 0"}, said{"best", "0 0 0 0 0 0"}, said{"box", "0"}, said{"end 2", "0 0 0 0 0"}, said{"end 1", "0 0 0 40 0"}, said{"held 1", "1000 1000 1000 1000"}, said{"stop 1", "0 0"}, said{"could 1 0 0", "-1"}, said{"most 0", "10"})
	// errors, and answers that are less than 0
	answered(t, suiteS(), said{"cut 1 4", "no 2"}, said{"cut 0 11", "no 7"}, said{"land 5 25 0", "done"}, said{"end 0", "0 0 -20 0 0"}, said{"could 15 0 5", "-1 2"}, said{"could 0 0 5", "no 2"}, said{"most 1", "no 2"}, said{"end 3", "no 2"}, said{"end 999999", "no 2"}, said{"dive 0 0 0 0 0 0 0 0 0 0 0 0 0 0 0 0 0", "done"}, said{"stop 0", "no 7"})
	// other lines, and long ones
	long := strings.Repeat("x", api.CaptainLine)
	answered(t, suiteS(), said{"", "no 4"}, said{" ", "no 4"}, said{"box 1", "no 4"}, said{"box ", "no 4"}, said{" box", "no 4"}, said{"boxes", "no 4"}, said{"Box", "no 4"}, said{"most", "no 4"}, said{"most 0 0", "no 4"}, said{"most 00", "no 4"}, said{"most -1", "no 4"}, said{"end 1000000", "no 4"}, said{"cut 00 1", "no 4"}, said{"cut  0 1", "no 4"}, said{"cut 0", "no 4"}, said{"could 1 0", "no 4"}, said{"done", "no 4"}, said{"box\r", "no 4"}, said{long, "no 4"}, said{long + "x", "no 3"}, said{"box" + long, "no 3"}, said{"land 10 2" + strings.Repeat(" 3", 56), "no 3"}, said{"land 1 2" + strings.Repeat(" 3", 56), "no 2"}, said{"box", "0"})
	// as many acts as there can be, and one more
	var full []said
	for line := range strings.Lines(journalOf(t, filled(t))) {
		full = append(full, said{line[:len(line)-1], "done"})
	}
	answered(t, suiteS(), append(full, said{"fate 1 2", "no 3"}, said{"cut 9 9", "no 3"}, said{"cut 0", "no 4"}, said{"stock", "5 4"})...)
	answered(t, suiteS())
	harsh := withSuite(func(s *api.CaptainSuite) { s.Table.Parts[0] = api.GasPart{} })
	answered(t, harsh, said{"stop 0", "no 5"})
	for i, x := range []struct {
		script string
		want   api.Errno
	}{
		{"box", api.ErrText}, {"box\nbox", api.ErrText}, {" ", api.ErrText}, {"x", api.ErrText}, {"box\n\x00", api.ErrText}, {strings.Repeat("x", api.CaptainText), api.ErrText}, {strings.Repeat("x", api.CaptainText+1), api.ErrLong}, {strings.Repeat("\n", api.CaptainText+1), api.ErrLong}, {strings.Repeat("x", 1<<20), api.ErrLong},
	} {
		if s, e := captain.Console(suiteS(), x.script); e != x.want || s != "" {
			t.Errorf("%d %q %v", i, s, e)
		}
	}
	if s, e := captain.Console(suiteS(), strings.Repeat("\n", api.CaptainText)); e != api.OK || s != strings.Repeat("no 4\n", api.CaptainText) {
		t.Error(len(s), e)
	}
	for i, x := range badSuites() {
		for _, script := range []string{"", "box\n", "box", strings.Repeat("x", api.CaptainText+1)} {
			if s, e := captain.Console(x, script); e != api.ErrArg || s != "" {
				t.Errorf("%d %q %v", i, s, e)
			}
		}
	}
}

// anyLine returns a line, mostly one of an act or of a question.
func anyLine(r *rand.Rand, m *model) string {
	line := ""
	if a, q := anyAct(r, m), anyAsk(r, m); r.Intn(2) == 0 && q.Kind >= api.CaptainMost && q.Kind <= api.CaptainCould {
		line = writtenAsk(q)
	} else {
		line = written(a)
	}
	i := r.Intn(len(line) + 1)
	switch r.Intn(30) {
	case 0:
		return line[:i] + " " + line[i:]
	case 1:
		return line[i:]
	case 2:
		return line[:i] + strconv.Itoa(r.Intn(10)) + line[i:]
	case 3:
		return line + strings.Repeat(" 0", r.Intn(70))
	}
	return line
}

// P10.9, P10.10: a script is answered just as its acts and questions are, one by one
func TestConsoleOfAny(t *testing.T) {
	r := source(8)
	met := map[string]int{}
	for range 400 {
		m := newModel(anySuite(r))
		c := opened(t, m.s)
		var script, want strings.Builder
		for script.Len() < api.CaptainText-400 && r.Intn(100) > 0 {
			line := anyLine(r, m)
			script.WriteString(line + "\n")
			answer := "no 4"
			a, e := captain.Parse(line)
			switch {
			case len(line) > api.CaptainLine:
				answer = "no 3"
			case e == api.OK:
				m.act(a)
				answer = "done"
				if e := c.Act(a); e != api.OK {
					answer = saying(nil, e)
				}
			case askLine.MatchString(line):
				fields := strings.Fields(line)
				q := ask(api.CaptainAsk(slices.Index(strings.Fields(askWords), fields[0]) + 1))
				for _, f := range fields[1:] {
					n, _ := strconv.Atoi(f)
					q.Numbers = append(q.Numbers, n)
				}
				answer = saying(c.Ask(q))
			}
			want.WriteString(answer + "\n")
			met[answer]++
		}
		if got, e := captain.Console(m.s, script.String()); e != api.OK || got != want.String() {
			t.Fatalf("%v %q %q %q %v", m.s, script.String(), got, want.String(), e)
		}
	}
	wantAll(t, met, "done", "no 2", "no 3", "no 4", "no 5", "no 7", "0", "-1", "0 0")
}
