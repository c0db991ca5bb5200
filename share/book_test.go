package share_test

import (
	"math/rand"
	"testing"

	"bathyal/api"
	"bathyal/share"
)

// P5.8
func TestBook(t *testing.T) {
	for i, x := range []struct {
		season api.ShareSeason
		want   api.ShareBook
	}{
		{seasonS(), bookS()}, {seasonU(), bookS()}, {idle(), api.ShareBook{Down: l(0, 0, 0)}},
		{seasonT(), api.ShareBook{Rows: rows(l(900, 600, 0), l(450, 300, 0), l(0, 0, 0)), Across: l(1500, 750, 0), Down: l(1350, 900, 0), All: 2250}},
		{with(func(s *api.ShareSeason) { s.Landings = s.Landings[2:] }), api.ShareBook{Rows: rows(l(0, 0, 0)), Across: l(0), Down: l(0, 0, 0)}},
	} {
		if got, e := share.Book(x.season); e != api.OK || !equal(got, x.want) {
			t.Error(i, got, e)
		}
	}
	for i, s := range badSeasons() {
		if got, e := share.Book(s); e != api.ErrArg || !equal(got, api.ShareBook{}) {
			t.Error(i, s, got, e)
		}
	}
}

// P5.8: books are as defined, for all seasons, and they close
func TestBookOfAny(t *testing.T) {
	r := source(11)
	for range 2000 {
		s := anySeason(r)
		b, e := share.Book(s)
		claims, n, _ := share.Claims(s)
		if e != api.OK || !equal(b.Down, claims) || b.All != poolOf(s)*n || len(b.Rows) != len(s.Landings) || len(b.Across) != len(b.Rows) {
			t.Fatal(s, b, e)
		}
		for landing, g := range s.Landings {
			if net, _ := netOf(g); b.Across[landing] != net*n || len(b.Rows[landing]) != len(s.Persons) {
				t.Fatal(s, b)
			}
			for person, claim := range b.Rows[landing] {
				if claim != times(t, claimOn(s, landing, person), n) {
					t.Fatal(s, b)
				}
			}
		}
		if is, e := share.Closes(b); e != api.OK || !is {
			t.Fatal(s, b, is, e)
		}
		if f, e := share.Mend(b); e != api.ErrRule || f != (api.ShareFix{}) {
			t.Fatal(s, b, f, e)
		}
	}
}

// P5.8
func TestMend(t *testing.T) {
	type fix = api.ShareFix
	const most = api.ShareMost
	to := func(b api.ShareBook) func(*api.ShareBook) { return func(x *api.ShareBook) { *x = b } }
	for i, x := range []struct {
		change func(*api.ShareBook)
		closes bool
		want   fix
		e      api.Errno
	}{
		{func(b *api.ShareBook) {}, true, fix{}, api.ErrRule}, {to(api.ShareBook{}), true, fix{}, api.ErrRule}, {to(api.ShareBook{Down: l(0, 0)}), true, fix{}, api.ErrRule}, {to(api.ShareBook{Rows: rows(nil, nil), Across: l(0, 0)}), true, fix{}, api.ErrRule}, {to(api.ShareBook{Rows: rows(l(most)), Across: l(most), Down: l(most), All: most}), true, fix{}, api.ErrRule},
		{func(b *api.ShareBook) { b.Rows[0][1] = 2010 }, false, fix{Where: api.ShareEntry, Column: 1, Value: 2000}, api.OK}, {func(b *api.ShareBook) { b.Rows[0][0] = 0 }, false, fix{Where: api.ShareEntry, Value: 3000}, api.OK}, {func(b *api.ShareBook) { b.Rows[2][2] = 5 }, false, fix{Where: api.ShareEntry, Row: 2, Column: 2}, api.OK}, {func(b *api.ShareBook) { b.Rows[1][0] = most }, false, fix{Where: api.ShareEntry, Row: 1, Value: 1800}, api.OK},
		{func(b *api.ShareBook) { b.Across[0] = 1 }, false, fix{Where: api.ShareAcross, Value: 6000}, api.OK}, {func(b *api.ShareBook) { b.Across[1] = 0 }, false, fix{Where: api.ShareAcross, Row: 1, Value: 3000}, api.OK}, {func(b *api.ShareBook) { b.Across[2] = most }, false, fix{Where: api.ShareAcross, Row: 2}, api.OK},
		{func(b *api.ShareBook) { b.Down[0] = 0 }, false, fix{Where: api.ShareDown, Value: 4800}, api.OK}, {func(b *api.ShareBook) { b.Down[2] = 999 }, false, fix{Where: api.ShareDown, Column: 2, Value: 1000}, api.OK}, {func(b *api.ShareBook) { b.All = 1 }, false, fix{Where: api.ShareAll, Value: 9000}, api.OK}, {func(b *api.ShareBook) { b.All = most }, false, fix{Where: api.ShareAll, Value: 9000}, api.OK},
		{to(api.ShareBook{All: 3}), false, fix{Where: api.ShareAll}, api.OK}, {to(api.ShareBook{Down: l(0, 4)}), false, fix{Where: api.ShareDown, Column: 1}, api.OK}, {to(api.ShareBook{Rows: rows(nil, nil), Across: l(0, 5)}), false, fix{Where: api.ShareAcross, Row: 1}, api.OK},
		// two numbers are wrong
		{func(b *api.ShareBook) { b.All, b.Down[0] = 1, 1 }, false, fix{}, api.ErrNone}, {func(b *api.ShareBook) { b.Rows[0][0], b.Rows[1][1] = 3001, 1199 }, false, fix{}, api.ErrNone}, {func(b *api.ShareBook) { b.Rows[0][0], b.Rows[0][1] = 3001, 1999 }, false, fix{}, api.ErrNone}, {func(b *api.ShareBook) { b.Rows[0][0], b.Rows[1][0] = 3001, 1799 }, false, fix{}, api.ErrNone}, {func(b *api.ShareBook) { b.Across[0], b.Across[1] = 6001, 2999 }, false, fix{}, api.ErrNone}, {func(b *api.ShareBook) { b.Down[0], b.Down[1] = 4801, 3199 }, false, fix{}, api.ErrNone}, {func(b *api.ShareBook) { b.Across[2], b.Down[2] = 5, 1005 }, false, fix{}, api.ErrNone}, {to(api.ShareBook{Down: l(4, 4), All: 8}), false, fix{}, api.ErrNone},
		// three are, and one fix would change the one that is right
		{func(b *api.ShareBook) { b.Across[0], b.Down[2], b.All = 6007, 1007, 9007 }, false, fix{Where: api.ShareEntry, Column: 2, Value: 1007}, api.OK},
		// a number would have to be less than 0, or too great
		{to(api.ShareBook{Rows: rows(l(5, 0), l(0, 4)), Across: l(3, 4), Down: l(5, 2), All: 7}), false, fix{}, api.ErrNone}, {to(api.ShareBook{Rows: rows(l(0, 5)), Across: l(4), Down: l(0, 4), All: 4}), false, fix{Where: api.ShareEntry, Column: 1, Value: 4}, api.OK}, {to(api.ShareBook{Rows: rows(l(0, 5)), Across: l(4), Down: l(1, 5), All: 4}), false, fix{}, api.ErrNone},
		{to(api.ShareBook{Rows: rows(l(1, 5), l(4, 0)), Across: l(4, 4), Down: l(3, 5), All: 8}), false, fix{}, api.ErrNone}, {to(api.ShareBook{Rows: rows(l(2, 5)), Across: l(4), Down: l(0, 5), All: 4}), false, fix{}, api.ErrNone},
		{to(api.ShareBook{Rows: rows(l(most, 1)), Across: l(5), Down: l(most, 1), All: 5}), false, fix{}, api.ErrNone}, {to(api.ShareBook{Rows: rows(l(most), l(1)), Across: l(most, 1), Down: l(5)}), false, fix{}, api.ErrNone}, {to(api.ShareBook{Rows: rows(l(most-1, 1)), Across: l(5), Down: l(most-1, 1), All: most}), false, fix{Where: api.ShareAcross, Value: most}, api.OK}, {to(api.ShareBook{Rows: rows(l(most, 1)), Across: l(most), Down: l(most, 1), All: most}), false, fix{}, api.ErrNone}, {to(api.ShareBook{Rows: rows(l(most, 0)), Across: l(most), Down: l(0, most), All: most}), false, fix{}, api.ErrNone}, {to(api.ShareBook{Rows: rows(l(3, 0)), Across: l(most), Down: l(most, 0), All: most}), false, fix{Where: api.ShareEntry, Value: most}, api.OK},
	} {
		b := booked(x.change)
		if is, e := share.Closes(b); e != api.OK || is != x.closes {
			t.Error(i, is, e)
		}
		if f, e := share.Mend(b); e != x.e || f != x.want {
			t.Error(i, f, e)
		}
	}
	for i, b := range badBooks() {
		if is, e := share.Closes(b); e != api.ErrArg || is {
			t.Error(i, b, is, e)
		}
		if f, e := share.Mend(b); e != api.ErrArg || f != (fix{}) {
			t.Error(i, b, f, e)
		}
	}
}

// total returns the sum of some numbers.
func total(numbers []int) int {
	all := 0
	for _, n := range numbers {
		all += n
	}
	return all
}

// closes reports whether a book closes, by the definition.
func closes(b api.ShareBook) bool {
	for row, numbers := range b.Rows {
		if total(numbers) != b.Across[row] {
			return false
		}
	}
	for column, n := range b.Down {
		for _, numbers := range b.Rows {
			n -= numbers[column]
		}
		if n != 0 {
			return false
		}
	}
	return total(b.Across) == b.All && total(b.Down) == b.All
}

// place is one of the numbers of a book, and the fix of it but for its value.
type place struct {
	number *int
	fix    api.ShareFix
}

// places returns all numbers of a book in the order of fixes.
func places(b *api.ShareBook) []place {
	var all []place
	for row := range b.Rows {
		for column := range b.Down {
			all = append(all, place{&b.Rows[row][column], api.ShareFix{Where: api.ShareEntry, Row: row, Column: column}})
		}
	}
	for row := range b.Across {
		all = append(all, place{&b.Across[row], api.ShareFix{Where: api.ShareAcross, Row: row}})
	}
	for column := range b.Down {
		all = append(all, place{&b.Down[column], api.ShareFix{Where: api.ShareDown, Column: column}})
	}
	return append(all, place{&b.All, api.ShareFix{Where: api.ShareAll}})
}

// closed returns a book that closes, with numbers up to one.
func closed(r *rand.Rand, most int) api.ShareBook {
	height, width := r.Intn(api.ShareRows+1), r.Intn(api.ShareRows+1)
	b := api.ShareBook{Rows: make([][]int, height), Across: make([]int, height), Down: make([]int, width)}
	for row := range height {
		b.Rows[row] = make([]int, width)
		for column := range width {
			n := r.Intn(most + 1)
			b.Rows[row][column] = n
			b.Across[row] += n
			b.Down[column] += n
			b.All += n
		}
	}
	return b
}

// firstFix returns the first fix of a book, or false if there is none, by the definition, among values up to one.
func firstFix(b *api.ShareBook, most int) (api.ShareFix, bool) {
	for _, p := range places(b) {
		was := *p.number
		for value := range most + 1 {
			*p.number = value
			if value != was && closes(*b) {
				*p.number = was
				p.fix.Value = value
				return p.fix, true
			}
		}
		*p.number = was
	}
	return api.ShareFix{}, false
}

// P5.8: the fix of a book is the first one of all that there are
func TestMendOfAny(t *testing.T) {
	r := source(12)
	met := map[any]int{}
	for range 3000 {
		b := closed(r, 2)
		for range r.Intn(4) {
			all := places(&b)
			n := all[r.Intn(len(all))].number
			*n = max(0, *n+anyOf(r, -2, 2))
		}
		if r.Intn(4) == 0 && len(b.Rows) > 0 && len(b.Down) > 0 {
			row, column, more := r.Intn(len(b.Rows)), r.Intn(len(b.Down)), r.Intn(3)
			b.Across[row], b.Down[column], b.All = b.Across[row]+more, b.Down[column]+more, b.All+more
		}
		is, e := share.Closes(b)
		if e != api.OK || is != closes(b) {
			t.Fatal(b, is, e)
		}
		f, e := share.Mend(b)
		if is {
			if e != api.ErrRule || f != (api.ShareFix{}) {
				t.Fatal(b, f, e)
			}
			met["closes"]++
			continue
		}
		want, some := firstFix(&b, 100)
		if some && e != api.OK || !some && e != api.ErrNone || f != want {
			t.Fatal(b, f, e, want, some)
		}
		met[f.Where]++
	}
	wantAll(t, met, any("closes"), any(api.ShareWhere(0)), any(api.ShareEntry), any(api.ShareAcross), any(api.ShareDown), any(api.ShareAll))
}

// P5.8: if one number of a book that closes was changed, the fix is to change it back
func TestMendOfChanged(t *testing.T) {
	r := source(13)
	for range 500 {
		b := closed(r, api.ShareMost/36)
		if r.Intn(2) == 0 {
			b, _ = share.Book(anySeason(r))
		}
		for _, p := range places(&b) {
			was := *p.number
			*p.number = max(0, was+anyOf(r, -9, 9))
			if r.Intn(2) == 0 {
				*p.number = r.Intn(api.ShareMost + 1)
			}
			p.fix.Value = was
			if f, e := share.Mend(b); *p.number != was && (e != api.OK || f != p.fix) {
				t.Fatal(b, f, e, p.fix)
			}
			*p.number = was
		}
		if !closes(b) {
			t.Fatal(b)
		}
	}
}
