package captain_test

import (
	"regexp"
	"slices"
	"strconv"
	"strings"

	"bathyal/api"
	"bathyal/gas"
	"bathyal/loft"
	"bathyal/market"
	"bathyal/share"
)

// The words of acts and of questions, in the order of their kinds, and how many numbers each question has.
const (
	actWords = "cut dive land sort sell fate"
	askWords = "most stop held end box stock sure best could"
)

func counts() []int { return l(1, 1, 1, 1, 0, 0, 0, 0, 3) }

// pattern returns what matches all lines of some forms, in which N is a number.
func pattern(forms string) *regexp.Regexp {
	return regexp.MustCompile(`^(` + strings.ReplaceAll(forms, "N", "(0|[1-9][0-9]{0,5})") + `)\z`)
}

var (
	actLine = pattern("cut N N|dive N( N N N N)+|land N N( N)+|sort N N N|sell N N N|fate N N")
	askLine = pattern("(most|stop|held|end) N|box|stock|sure|best|could N N N")
)

// words returns a word and some numbers with a blank between two of them.
func words(word string, numbers []int) string {
	for _, n := range numbers {
		word += " " + strconv.Itoa(n)
	}
	return word
}

// written returns the line of an act; it matches actLine just if the act is formed.
func written(a api.CaptainAct) string {
	if a.Kind < api.CaptainCut || a.Kind > api.CaptainFate {
		return "?"
	}
	return words(strings.Fields(actWords)[a.Kind-api.CaptainCut], a.Numbers)
}

// writtenAsk returns the line of a question.
func writtenAsk(q api.CaptainQuestion) string {
	return words(strings.Fields(askWords)[q.Kind-api.CaptainMost], q.Numbers)
}

// saying returns the line of an answer.
func saying(n []int, e api.Errno) string {
	switch {
	case e != api.OK:
		return words("no", l(int(e)))
	case len(n) == 0:
		return "none"
	}
	return words("", n)[1:]
}

// model is a season that is played by the definitions.
type model struct {
	s      api.CaptainSuite
	lines  []string
	cuts   map[int]int
	stages map[int][]api.GasStage
	season api.ShareSeason
	grades []int
	sold   [][]int
}

// newModel returns a season in which nothing was done.
func newModel(s api.CaptainSuite) *model {
	m := &model{s: s, cuts: map[int]int{}, stages: map[int][]api.GasStage{}, season: api.ShareSeason{Persons: slices.Clone(s.Persons)}}
	for range s.Marts {
		m.sold = append(m.sold, make([]int, len(s.Marts[0].Prices)))
	}
	return m
}

func inside(n int, low, high int) bool { return low <= n && n <= high }

// act does an act, if it is allowed.
func (m *model) act(a api.CaptainAct) api.Errno {
	if !actLine.MatchString(written(a)) {
		return api.ErrArg
	}
	if len(m.lines) == api.CaptainActs {
		return api.ErrLong
	}
	do := []func([]int) api.Errno{m.cut, m.dive, m.land, m.sort, m.sell, m.fate}[a.Kind-1]
	e := do(a.Numbers)
	if e == api.OK {
		m.lines = append(m.lines, written(a))
	}
	return e
}

// grown returns the classes of a bed after a year, of which so many of a hundred grow.
func grown(held []int, rates [3]int) []int {
	after := slices.Clone(held)
	for class, rate := range rates {
		n := held[class] * rate / 100
		after[class] -= n
		after[class+1] += n
	}
	return after
}

// lawful reports whether a bed can be cut so: what is least of it grows the least.
func lawful(b api.BedsBed, pieces int) bool {
	var held []int
	for _, s := range b.Start {
		held = append(held, s.Low)
	}
	if pieces < 1 || held[3] < b.Full || held[3]-pieces < b.Leave {
		return false
	}
	held[0] += pieces
	held[3] -= pieces
	for range b.Within {
		held = grown(held, [3]int{b.Low, b.Low, b.Low})
	}
	return held[3] >= b.Full
}

// mayCut reports whether a bed can be cut so now.
func (m *model) mayCut(bed, pieces int) bool {
	return m.cuts[bed] == 0 && len(m.cuts) < m.s.Ground.Boats && lawful(m.s.Ground.Beds[bed], pieces)
}

func (m *model) cut(n []int) api.Errno {
	if n[0] >= len(m.s.Ground.Beds) {
		return api.ErrArg
	}
	if !m.mayCut(n[0], n[1]) {
		return api.ErrRule
	}
	m.cuts[n[0]] = n[1]
	return api.OK
}

// surely reports whether a man surely keeps the limits.
func (m *model) surely(man int, stages []api.GasStage) bool {
	_, _, e := gas.Worst(m.s.Table, m.s.Men[man], stages)
	return e == api.ErrNone
}

func (m *model) dive(n []int) api.Errno {
	if n[0] >= len(m.s.Men) {
		return api.ErrArg
	}
	all := slices.Clone(m.stages[n[0]])
	for four := range slices.Chunk(n[1:], 4) {
		s := api.GasStage{Depth: sp(four[0], four[1]), Minutes: sp(four[2], four[3])}
		for _, x := range []struct {
			span api.Span
			most int
		}{{s.Depth, api.GasDepth}, {s.Minutes, api.GasMinutes}} {
			if x.span.Low > x.span.High || x.span.High > x.most || x.span.High-x.span.Low > api.GasWide {
				return api.ErrArg
			}
		}
		all = append(all, s)
	}
	if len(all) > api.GasStages {
		return api.ErrArg
	}
	if !m.surely(n[0], all) {
		return api.ErrRule
	}
	m.stages[n[0]] = all
	return api.OK
}

func (m *model) land(n []int) api.Errno {
	if n[0] > api.ShareCoins || n[1] > api.ShareCoins || n[2] != 0 || len(m.season.Landings) == api.ShareLandings {
		return api.ErrArg
	}
	crew := 0
	for i, p := range n[2:] {
		if i > 0 && p <= n[i+1] || p >= len(m.s.Persons) {
			return api.ErrArg
		}
		crew += 1 << p
	}
	for _, p := range n[2:] {
		dry := inside(p, 1, len(m.s.Men)) && len(m.stages[p-1]) == 0
		if m.season.Persons[p].Fate != api.ShareStays || dry {
			return api.ErrRule
		}
	}
	m.season.Landings = append(m.season.Landings, api.ShareLanding{Gross: n[0], Costs: n[1], Crew: crew})
	return api.OK
}

// could returns the grades of all sponges that can be read so.
func (m *model) could(n []int) []int {
	var found []int
	for form := range api.LoftForms {
		for pore := max(0, n[1]-m.s.Rule.Pore); pore <= min(api.LoftPore, n[1]+m.s.Rule.Pore); pore++ {
			for size := max(0, n[2]-m.s.Rule.Size); size <= min(api.LoftSize, n[2]+m.s.Rule.Size); size++ {
				if n[0]&(1<<form) != 0 {
					g, _ := loft.Grade(m.s.Rule, api.LoftSponge{Form: form, Pore: pore, Size: size})
					found = append(found, g)
				}
			}
		}
	}
	slices.Sort(found)
	return slices.Compact(found)
}

// isRead reports whether numbers are those of a reading.
func isRead(n []int) bool {
	return inside(n[0], 1, 15) && inside(n[1], 0, api.LoftPore) && inside(n[2], 0, api.LoftSize)
}

// bales returns how many sponges of a grade were sorted.
func (m *model) bales(grade int) int {
	many := 0
	for _, g := range m.grades {
		if g == grade {
			many++
		}
	}
	return many
}

// pieces returns how many were cut.
func (m *model) pieces() int {
	sum := 0
	for _, n := range m.cuts {
		sum += n
	}
	return sum
}

func (m *model) sort(n []int) api.Errno {
	if !isRead(n) {
		return api.ErrArg
	}
	can := m.could(n)
	if len(can) > 1 || !inside(can[0], 0, len(m.sold[0])-1) || len(m.grades) >= m.pieces() || m.bales(can[0]) >= api.MarketBales {
		return api.ErrRule
	}
	m.grades = append(m.grades, can[0])
	return api.OK
}

// left returns how many bales of a grade are not sold, and room how many more a mart takes.
func (m *model) left(grade int) int {
	n := m.bales(grade)
	for _, row := range m.sold {
		n -= row[grade]
	}
	return n
}

func (m *model) room(mart int) int {
	n := m.s.Marts[mart].Takes
	for _, bales := range m.sold[mart] {
		n -= bales
	}
	return n
}

func (m *model) sell(n []int) api.Errno {
	if n[0] >= len(m.sold) || n[1] >= len(m.sold[0]) || n[2] == 0 {
		return api.ErrArg
	}
	if n[2] > m.left(n[1]) || n[2] > m.room(n[0]) {
		return api.ErrRule
	}
	m.sold[n[0]][n[1]] += n[2]
	return api.OK
}

func (m *model) fate(n []int) api.Errno {
	if !inside(n[0], 1, len(m.s.Persons)-1) || !inside(n[1], 2, 3) {
		return api.ErrArg
	}
	if m.season.Persons[n[0]].Fate != api.ShareStays {
		return api.ErrRule
	}
	m.season.Persons[n[0]].Fate = map[int]api.ShareFate{2: api.ShareDeserts, 3: api.ShareDies}[n[1]]
	return api.OK
}

// rest returns the store of what is not sold.
func (m *model) rest() api.MarketStore {
	s := api.MarketStore{Marts: slices.Clone(m.s.Marts)}
	for grade := range m.sold[0] {
		s.Stock = append(s.Stock, m.left(grade))
	}
	for i := range s.Marts {
		s.Marts[i].Takes = m.room(i)
	}
	return s
}

// sure returns the least and the most that all that was sold can bring.
func (m *model) sure() []int {
	both := l(0, 0)
	for i, x := range m.s.Marts {
		for grade, p := range x.Prices {
			for end, price := range l(p.Low, p.High) {
				both[end] += m.sold[i][grade] * (price*(100-x.Rate)/100 - x.Freight)
			}
		}
	}
	return both
}

// stop returns the first stop with which a man surely keeps the limits: fewer minutes come first, and then lesser depths.
func (m *model) stop(man int) ([]int, api.Errno) {
	stages := m.stages[man]
	if len(stages) == api.GasStages {
		return nil, api.ErrRule
	}
	if m.surely(man, stages) {
		return l(0, 0), api.OK
	}
	for minutes := 1; minutes <= api.GasLongest; minutes++ {
		for _, depth := range m.s.Table.Stops {
			if m.surely(man, append(slices.Clone(stages), api.GasStage{Depth: just(depth), Minutes: just(minutes)})) {
				return l(depth, minutes), api.OK
			}
		}
	}
	return nil, api.ErrNone
}

// ask returns the answer of a question.
func (m *model) ask(q api.CaptainQuestion) ([]int, api.Errno) {
	if q.Kind < api.CaptainMost || q.Kind > api.CaptainCould || len(q.Numbers) != counts()[q.Kind-1] {
		return nil, api.ErrArg
	}
	n := q.Numbers
	about := map[api.CaptainAsk]int{api.CaptainMost: len(m.s.Ground.Beds), api.CaptainStop: len(m.s.Men), api.CaptainHeld: len(m.s.Men), api.CaptainEnd: len(m.s.Persons)}
	if many, is := about[q.Kind]; is && !inside(n[0], 0, many-1) || q.Kind == api.CaptainCould && !isRead(n) {
		return nil, api.ErrArg
	}
	ends, box, _ := share.Settle(m.season)
	switch q.Kind {
	case api.CaptainMost:
		pieces := api.BedsPieces
		for pieces > 0 && !m.mayCut(n[0], pieces) {
			pieces--
		}
		return l(pieces), api.OK
	case api.CaptainStop:
		return m.stop(n[0])
	case api.CaptainHeld:
		known, _ := gas.Known(m.s.Table, m.s.Men[n[0]], m.stages[n[0]])
		var held []int
		for _, s := range known[len(m.stages[n[0]])] {
			held = append(held, s.Low, s.High)
		}
		return held, api.OK
	case api.CaptainEnd:
		x := ends[n[0]]
		return l(x.Share, x.Off, x.Paid, x.Owed, x.Struck), api.OK
	case api.CaptainBox:
		return l(box), api.OK
	case api.CaptainStock:
		return m.rest().Stock, api.OK
	case api.CaptainSure:
		return m.sure(), api.OK
	case api.CaptainBest:
		sale, brings, _ := market.Sell(m.rest())
		return append(slices.Concat(sale...), brings.Low, brings.High), api.OK
	}
	return m.could(n), api.OK
}

// journal returns the lines of all acts that were done.
func (m *model) journal() string {
	var j strings.Builder
	for _, line := range m.lines {
		j.WriteString(line + "\n")
	}
	return j.String()
}
