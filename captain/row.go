package captain

import (
	"slices"

	"bathyal/api"
)

// The rows of acts, in the order of their kinds.
const (
	cutRow = iota
	diveRow
	landRow
	sortRow
	sellRow
	fateRow
	actRows
)

// The rows of questions, in the order of their kinds.
const (
	mostRow = iota
	stopRow
	heldRow
	endRow
	boxRow
	stockRow
	sureRow
	bestRow
	couldRow
	askRows
)

// How many numbers of a dive are before its stages, how many each stage has, and how many numbers of a landing are before its persons.
const (
	beforeStages = 1
	ofStage      = 4
	beforeCrew   = 2
)

// row is a row of the chapter's lists of acts and of questions, with the word of its lines.
type row interface {
	word() string
}

// The rows: one of just so many numbers, one with stages, and one with persons.
type (
	plain struct {
		name    string
		numbers int
	}
	staged struct{ name string }
	crewed struct{ name string }
)

func (p plain) word() string  { return p.name }
func (s staged) word() string { return s.name }
func (c crewed) word() string { return c.name }

// says reports whether a row says that there are so many numbers.
func says(r row, numbers int) bool {
	switch r := r.(type) {
	case plain:
		return numbers == r.numbers
	case staged:
		return numbers > beforeStages && (numbers-beforeStages)%ofStage == 0
	case crewed:
		return numbers > beforeCrew
	}
	return false
}

// acts returns the rows of acts.
func acts() [actRows]row {
	return [actRows]row{
		cutRow:  plain{"cut", 2},
		diveRow: staged{"dive"},
		landRow: crewed{"land"},
		sortRow: plain{"sort", 3},
		sellRow: plain{"sell", 3},
		fateRow: plain{"fate", 2},
	}
}

// questions returns the rows of questions.
func questions() [askRows]row {
	return [askRows]row{
		mostRow:  plain{"most", 1},
		stopRow:  plain{"stop", 1},
		heldRow:  plain{"held", 1},
		endRow:   plain{"end", 1},
		boxRow:   plain{"box", 0},
		stockRow: plain{"stock", 0},
		sureRow:  plain{"sure", 0},
		bestRow:  plain{"best", 0},
		couldRow: plain{"could", 3},
	}
}

// isNumber reports whether an act can have a number.
func isNumber(n int) bool { return within(n, 0, api.CaptainNumber) }

// isFormed reports whether an act is formed.
func isFormed(a api.CaptainAct) bool {
	if !within(int(a.Kind), int(api.CaptainCut), int(api.CaptainFate)) {
		return false
	}
	is := acts()[a.Kind-api.CaptainCut]
	return says(is, len(a.Numbers)) && !slices.ContainsFunc(a.Numbers, func(n int) bool { return !isNumber(n) })
}

// isAsked reports whether there is a question of a kind, with so many numbers.
func isAsked(q api.CaptainQuestion) bool {
	if !within(int(q.Kind), int(api.CaptainMost), int(api.CaptainCould)) {
		return false
	}
	return says(questions()[q.Kind-api.CaptainMost], len(q.Numbers))
}
