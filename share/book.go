package share

import (
	"slices"

	"bathyal/api"
)

// areNumbers reports whether all of some numbers can be in a book.
func areNumbers(numbers ...int) bool {
	for _, n := range numbers {
		if !within(n, 0, api.ShareMost) {
			return false
		}
	}
	return true
}

// isBook reports whether a book is as defined.
func isBook(b api.ShareBook) bool {
	if len(b.Rows) > api.ShareRows || len(b.Down) > api.ShareRows || len(b.Across) != len(b.Rows) {
		return false
	}
	for _, row := range b.Rows {
		if len(row) != len(b.Down) || !areNumbers(row...) {
			return false
		}
	}
	return areNumbers(b.Across...) && areNumbers(b.Down...) && areNumbers(b.All)
}

// kept is a book in which numbers are tried.
type kept struct{ api.ShareBook }

// copied returns a book that shares no memory with the given one.
func copied(b api.ShareBook) kept {
	k := kept{api.ShareBook{Across: slices.Clone(b.Across), Down: slices.Clone(b.Down), All: b.All}}
	for _, row := range b.Rows {
		k.Rows = append(k.Rows, slices.Clone(row))
	}
	return k
}

// column returns the numbers of a column.
func (k kept) column(column int) []int {
	var numbers []int
	for _, row := range k.Rows {
		numbers = append(numbers, row[column])
	}
	return numbers
}

// closes reports whether the book closes.
func (k kept) closes() bool {
	for row, numbers := range k.Rows {
		if sum(numbers...) != k.Across[row] {
			return false
		}
	}
	for column := range len(k.Down) {
		if sum(k.column(column)...) != k.Down[column] {
			return false
		}
	}
	return sum(k.Across...) == k.All && sum(k.Down...) == k.All
}

// The kinds of numbers of a book, in the order of fixes.
const (
	entries = iota
	across
	down
	whole
	kinds
)

// entries returns each entry as its row wants it.
func (k kept) entries() []api.ShareFix {
	var fixes []api.ShareFix
	for row, numbers := range k.Rows {
		missing := k.Across[row] - sum(numbers...)
		for column, n := range numbers {
			fixes = append(fixes, api.ShareFix{Where: api.ShareEntry, Row: row, Column: column, Value: n + missing})
		}
	}
	return fixes
}

// across returns the sum of each row.
func (k kept) across() []api.ShareFix {
	var fixes []api.ShareFix
	for row, numbers := range k.Rows {
		fixes = append(fixes, api.ShareFix{Where: api.ShareAcross, Row: row, Value: sum(numbers...)})
	}
	return fixes
}

// down returns the sum of each column.
func (k kept) down() []api.ShareFix {
	var fixes []api.ShareFix
	for column := range len(k.Down) {
		fixes = append(fixes, api.ShareFix{Where: api.ShareDown, Column: column, Value: sum(k.column(column)...)})
	}
	return fixes
}

// whole returns the sum of all.
func (k kept) whole() []api.ShareFix {
	return []api.ShareFix{{Where: api.ShareAll, Value: sum(k.Across...)}}
}

// number returns the number of the book that a fix changes.
func (k *kept) number(f api.ShareFix) *int {
	switch f.Where {
	case api.ShareEntry:
		return &k.Rows[f.Row][f.Column]
	case api.ShareAcross:
		return &k.Across[f.Row]
	case api.ShareDown:
		return &k.Down[f.Column]
	}
	return &k.All
}

// mends reports whether the book closes with a fix.
func (k *kept) mends(f api.ShareFix) bool {
	if !areNumbers(f.Value) {
		return false
	}
	number := k.number(f)
	was := *number
	*number = f.Value
	mends := k.closes()
	*number = was
	return mends
}

// mend returns the first fix of the book, or false if there is none. Each number can have one value alone with which the row, or the column, that it belongs to closes.
func (k *kept) mend() (found api.ShareFix, some bool) {
	all := [kinds]func() []api.ShareFix{entries: k.entries, across: k.across, down: k.down, whole: k.whole}
search:
	for _, fixes := range all {
		for _, f := range fixes() {
			if k.mends(f) {
				found, some = f, true
				break search
			}
		}
	}
	return found, some
}

// Book returns the book of a season.
func Book(s api.ShareSeason) (api.ShareBook, api.Errno) {
	if e := Check(s); e != api.OK {
		return api.ShareBook{}, e
	}
	x := settle(s)
	b := api.ShareBook{Down: x.totals()}
	for landing := range x.Landings {
		row := x.row(landing)
		b.Rows = append(b.Rows, row)
		b.Across = append(b.Across, sum(row...))
	}
	b.All = sum(b.Across...)
	return b, api.OK
}

// Closes reports whether a book closes.
func Closes(b api.ShareBook) (bool, api.Errno) {
	if !isBook(b) {
		return false, api.ErrArg
	}
	return kept{b}.closes(), api.OK
}

// Mend returns the first fix of a book.
func Mend(b api.ShareBook) (api.ShareFix, api.Errno) {
	if !isBook(b) {
		return api.ShareFix{}, api.ErrArg
	}
	k := copied(b)
	if k.closes() {
		return api.ShareFix{}, api.ErrRule
	}
	f, some := k.mend()
	if !some {
		return api.ShareFix{}, api.ErrNone
	}
	return f, api.OK
}
