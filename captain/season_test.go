package captain_test

import (
	"math/rand"
	"slices"
	"testing"

	"bathyal/api"
	"bathyal/gas"
	"bathyal/market"
)

// in returns a number of a span, mostly one of its ends.
func in(r *rand.Rand, s api.Span) int {
	return l(s.Low, s.High, anyOf(r, s.Low, s.High))[r.Intn(3)]
}

// numbersOf returns the numbers of all acts of a kind.
func numbersOf(done []api.CaptainAct, kind api.CaptainKind) [][]int {
	var all [][]int
	for _, a := range done {
		if a.Kind == kind {
			all = append(all, a.Numbers)
		}
	}
	return all
}

// P10.4, P0.1: whatever grows, a bed that was cut has what is left after the cut, and is full again within its years
func TestCutsRegrow(t *testing.T) {
	r := source(9)
	met := map[bool]int{}
	for range 400 {
		m, done := anySeason(r, 20)
		played(t, m.s, done...)
		for _, n := range numbersOf(done, api.CaptainCut) {
			b := m.s.Ground.Beds[n[0]]
			for range 50 {
				var held []int
				for _, s := range b.Start {
					held = append(held, in(r, s))
				}
				full := held[3] >= b.Full
				held[3] -= n[1]
				held[0] += n[1]
				left := held[3] >= b.Leave
				rates := sp(b.Low, b.High)
				for range b.Within {
					held = grown(held, [3]int{in(r, rates), in(r, rates), in(r, rates)})
				}
				if !full || !left || held[3] < b.Full {
					t.Fatal(b, n, held)
				}
				met[held[3] == b.Full]++
			}
		}
	}
	wantAll(t, met, true, false)
}

// P10.4: a greater cut than the most is not done, and each lesser one is
func TestMostIsMost(t *testing.T) {
	r := source(10)
	met := map[bool]int{}
	for range 300 {
		m, done := anySeason(r, 10)
		for bed := range m.s.Ground.Beds {
			c := played(t, m.s, done...)
			most, e := c.Ask(ask(api.CaptainMost, bed))
			if e != api.OK {
				t.Fatal(e)
			}
			for more := most[0] + 1; more <= most[0]+40; more++ {
				if e := c.Act(cut(bed, more)); e != api.ErrRule {
					t.Fatal(m.s, m.lines, bed, more, e)
				}
			}
			for pieces := 1; pieces <= most[0]; pieces++ {
				if e := played(t, m.s, done...).Act(cut(bed, pieces)); e != api.OK {
					t.Fatal(m.s, m.lines, bed, pieces, e)
				}
			}
			met[most[0] > 1]++
		}
	}
	wantAll(t, met, true, false)
}

// P10.4, P0.2: whatever is true, each diver keeps the limits at all moments, and what he holds lies within the bounds that are told
func TestDiversKeepLimits(t *testing.T) {
	r := source(11)
	met := map[int]int{}
	for range 250 {
		m, done := anySeason(r, 40)
		c := played(t, m.s, done...)
		for man, x := range m.s.Men {
			stages := m.stages[man]
			if len(stages) == 0 {
				continue
			}
			told, e := c.Ask(ask(api.CaptainHeld, man))
			if e != api.OK {
				t.Fatal(e)
			}
			for range 60 {
				var truth api.GasTruth
				for _, s := range x.Rates {
					truth.Rates = append(truth.Rates, in(r, s))
				}
				for _, s := range stages {
					truth.Depths = append(truth.Depths, in(r, s.Depth))
					truth.Minutes = append(truth.Minutes, in(r, s.Minutes))
				}
				run, e := gas.Run(m.s.Table, x, stages, truth)
				if e != api.OK {
					t.Fatal(e)
				}
				for moment, held := range run {
					depth := append(truth.Depths, 0)[moment]
					for part, p := range m.s.Table.Parts {
						if held[part] > p.Limit+p.Slope*depth || moment == len(stages) && !inside(held[part], told[2*part], told[2*part+1]) {
							t.Fatal(m.s, m.lines, truth, run, told)
						}
					}
				}
			}
			met[len(stages)]++
		}
	}
	wantAll(t, met, 1, 2, 3, 4)
}

// P10.5, P0.5: each coin that landings brought, less what they cost, is paid or in the box
func TestCoins(t *testing.T) {
	r := source(12)
	met := map[[2]bool]int{}
	for range 1500 {
		m, done := anySeason(r, 40)
		c := played(t, m.s, done...)
		coins, owed := 0, 0
		for _, n := range numbersOf(done, api.CaptainLand) {
			coins += n[0] - n[1]
		}
		box, _ := c.Ask(ask(api.CaptainBox))
		paid := box[0]
		for i, p := range m.s.Persons {
			end, e := c.Ask(ask(api.CaptainEnd, i))
			if e != api.OK || len(end) != 5 {
				t.Fatal(end, e)
			}
			paid += end[2]
			owed += p.Debt - end[1] - end[3] - end[4]
		}
		if paid != coins || owed != 0 || !inside(box[0], 0, len(m.s.Persons)-1) {
			t.Fatal(m.s, m.lines, paid, coins, owed, box)
		}
		met[[2]bool{box[0] > 0, coins < 0}]++
	}
	wantAll(t, met, [2]bool{false, false}, [2]bool{true, false}, [2]bool{false, true})
}

// P10.5: who has a fate takes part in no landing after it, and a diver in none before a dive
func TestCrews(t *testing.T) {
	r := source(13)
	landed, refused := 0, 0
	for range 1500 {
		m, done := anySeason(r, 40)
		gone, dived := map[int]bool{}, map[int]bool{0: true}
		for p := len(m.s.Men) + 1; p < api.ShareFew; p++ {
			dived[p] = true
		}
		for _, a := range done {
			switch a.Kind {
			case api.CaptainFate:
				gone[a.Numbers[0]] = true
			case api.CaptainDive:
				dived[a.Numbers[0]+1] = true
			case api.CaptainLand:
				landed++
				for _, p := range a.Numbers[2:] {
					if gone[p] || !dived[p] {
						t.Fatal(m.s, m.lines)
					}
				}
			}
		}
		c := played(t, m.s, done...)
		for p := 1; p < len(m.s.Persons); p++ {
			if (gone[p] || !dived[p]) && len(m.season.Landings) < api.ShareLandings && len(done) < api.CaptainActs {
				refused++
				if e := c.Act(land(1, 0, 0, p)); e != api.ErrRule {
					t.Fatal(m.s, m.lines, p, e)
				}
			}
		}
	}
	if landed < 500 || refused < 500 {
		t.Error(landed, refused)
	}
}

// P10.6: no more is sold than was sorted, and no more is sorted than was cut
func TestBales(t *testing.T) {
	r := source(14)
	met := map[int]int{}
	for range 1500 {
		m, done := anySeason(r, 60)
		c := played(t, m.s, done...)
		pieces, sold := 0, 0
		for _, n := range numbersOf(done, api.CaptainCut) {
			pieces += n[1]
		}
		for _, n := range numbersOf(done, api.CaptainSell) {
			sold += n[2]
		}
		many := len(numbersOf(done, api.CaptainSort))
		stock, e := c.Ask(ask(api.CaptainStock))
		if e != api.OK || slices.Min(stock) < 0 || many > pieces {
			t.Fatal(m.s, m.lines, stock, pieces)
		}
		for _, n := range stock {
			sold += n
		}
		if sold != many {
			t.Fatal(m.s, m.lines, stock)
		}
		met[many]++
	}
	wantAll(t, met, 0, 1, 3, 5, 7)
}

// P10.6: whatever prices are, all that was sold brings no less, and no more, than is told, and each end is reached
func TestSureIsSure(t *testing.T) {
	r := source(15)
	met := map[bool]int{}
	for range 500 {
		m, done := anySeason(r, 60)
		both, e := played(t, m.s, done...).Ask(ask(api.CaptainSure))
		if e != api.OK {
			t.Fatal(e)
		}
		store := api.MarketStore{Stock: slices.Repeat(l(api.MarketBales), len(m.sold[0])), Marts: m.s.Marts}
		for i := range 30 {
			var prices [][]int
			for _, x := range m.s.Marts {
				var row []int
				for _, s := range x.Prices {
					row = append(row, l(s.Low, s.High, in(r, s))[min(i, 2)])
				}
				prices = append(prices, row)
			}
			n, e := market.Brings(store, m.sold, prices)
			if e != api.OK || !inside(n, both[0], both[1]) || i < 2 && n != both[i] {
				t.Fatal(m.s, m.lines, prices, n, both, e)
			}
		}
		met[both[0] < both[1]]++
	}
	wantAll(t, met, true, false)
}

// P10.6, P0.8: no sale of the rest that somebody proposes betters the best one, nor surely brings more
func TestBestIsBest(t *testing.T) {
	r := source(16)
	met := map[bool]int{}
	for range 500 {
		m, done := anySeason(r, 60)
		c := played(t, m.s, done...)
		n, e := c.Ask(ask(api.CaptainBest))
		grades := len(m.sold[0])
		if e != api.OK || len(n) != grades*len(m.sold)+2 {
			t.Fatal(n, e)
		}
		store, best := m.rest(), slices.Collect(slices.Chunk(n[:len(n)-2], grades))
		told := n[len(n)-2:]
		if both, e := market.Sure(store, best); e != api.OK || both != sp(told[0], told[1]) {
			t.Fatal(m.s, m.lines, n, both, e)
		}
		for range 40 {
			var sale [][]int
			for range m.sold {
				sale = append(sale, l(anyOf(r, 0, 3), anyOf(r, 0, 3))[:grades])
			}
			both, e := market.Sure(store, sale)
			if betters, _ := market.Betters(store, sale, best); e == api.OK && (betters || both.Low > told[0]) {
				t.Fatal(m.s, m.lines, n, sale)
			}
			met[e == api.OK]++
		}
		// what is best can be done, if there is room for it
		for i, row := range best {
			for grade, bales := range row {
				if bales > 0 && len(m.lines) < api.CaptainActs {
					if e := c.Act(sell(i, grade, bales)); e != m.act(sell(i, grade, bales)) || e != api.OK {
						t.Fatal(m.s, m.lines, n, e)
					}
				}
			}
		}
	}
	wantAll(t, met, true, false)
}

// P0.6: a sponge that is sorted is of the same grade for any sorter, whatever is true of it
func TestSortedIsSure(t *testing.T) {
	r := source(17)
	many := 0
	for range 300 {
		m, done := anySeason(r, 40)
		c := opened(t, m.s)
		before := make([]int, len(m.sold[0]))
		for _, a := range done {
			if e := c.Act(a); e != api.OK {
				t.Fatal(e)
			}
			stock, _ := c.Ask(ask(api.CaptainStock))
			if a.Kind == api.CaptainSort {
				grades := m.could(a.Numbers)
				before[grades[0]]++
				many++
				if len(grades) != 1 || !slices.Equal(stock, before) {
					t.Fatal(m.s, m.lines, a, grades, stock)
				}
			}
			before = stock
		}
	}
	if many < 300 {
		t.Error(many)
	}
}

// apart reports whether two acts are cuts, dives of different men, or sales in different marts.
func apart(a, b api.CaptainAct) bool {
	for _, x := range acts(a, b) {
		if x.Kind != api.CaptainCut && x.Kind != api.CaptainDive && x.Kind != api.CaptainSell {
			return false
		}
	}
	return a.Kind != b.Kind || a.Kind == api.CaptainCut || a.Numbers[0] != b.Numbers[0]
}

// P10.10: what is allowed one after the other can be done in either order, with the same answers in the end
func TestOrder(t *testing.T) {
	r := source(18)
	met := map[[2]api.CaptainKind]int{}
	for range 500 {
		m, done := anySeason(r, 50)
		for i := range len(done) - 1 {
			a, b := done[i], done[i+1]
			if !apart(a, b) {
				continue
			}
			other := slices.Clone(done)
			other[i], other[i+1] = b, a
			x, y := answersOf(t, played(t, m.s, done...)), answersOf(t, played(t, m.s, other...))
			if !slices.Equal(x[1:], y[1:]) {
				t.Fatal(m.s, m.lines, i, x, y)
			}
			met[[2]api.CaptainKind{a.Kind, b.Kind}]++
		}
	}
	kinds := []api.CaptainKind{api.CaptainCut, api.CaptainDive, api.CaptainSell}
	for _, a := range kinds {
		for _, b := range kinds {
			wantAll(t, met, [2]api.CaptainKind{a, b})
		}
	}
}

// P10.10: two cuts, two dives and two sales that both are allowed, in both orders
func TestOrderOfTwo(t *testing.T) {
	done := acts(cut(0, 4), cut(1, 3), dive(0, 10, 10, 3, 3), dive(1, 9, 10, 3, 4))
	bales := acts(sorted(1, 5, 25), sorted(1, 5, 25), sorted(1, 15, 30), sell(0, 0, 1), sell(1, 0, 1))
	want := answersOf(t, played(t, fleet(2, 2), slices.Concat(done, bales)...))
	for _, swap := range l(0, 2, 7) {
		all := slices.Concat(done, bales)
		all[swap], all[swap+1] = all[swap+1], all[swap]
		if got := answersOf(t, played(t, fleet(2, 2), all...)); !slices.Equal(got[1:], want[1:]) || got[0] == want[0] {
			t.Error(swap, got, want)
		}
	}
}
