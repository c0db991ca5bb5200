package gas_test

import (
	"slices"
	"testing"

	"bathyal/api"
	"bathyal/gas"
)

// P2.4
func TestSurelyAndWorst(t *testing.T) {
	for i, x := range []struct {
		t            api.GasTable
		m            api.GasMan
		dive         []api.GasStage
		is           bool
		moment, part int
	}{
		{tableT(), manM(), diveV(), true, 0, 0},
		{tableT(), manM(), diveW(), false, 1, 0},
		{tableT(), manN(), diveW(), true, 0, 0},
		{tableT(), manM(), nil, true, 0, 0},
		{shut(), manM(), nil, false, 0, 0},
		{shut(), manM(), diveV(), false, 1, 0},
		{tableWith(func(t *api.GasTable) { t.Parts[1].Limit = 900 }), manM(), nil, false, 0, 1},
		// at 1 fathom more is held than is allowed, at 3 fathoms less: a stage that can begin at both is not within the limits
		{tableT(), manM(), and(diveU(), at(one(1), one(5))), false, 1, 0},
		{tableT(), manM(), and(diveU(), at(one(3), one(5))), false, 2, 0},
		{tableT(), manM(), and(diveU(), at(sp(1, 3), one(5))), false, 1, 0},
		// just as much as is allowed: after 3 minutes 1487 is held, and after 4 minutes 1618
		{tableWith(func(t *api.GasTable) { t.Parts[0].Limit = 1487 }), manM(), diveV(), true, 0, 0},
		{tableWith(func(t *api.GasTable) { t.Parts[0].Limit = 1486 }), manM(), diveV(), false, 1, 0},
		// at 2 fathoms the compartment 1 comes to 1300 after 87 minutes, and to 1301 after 88
		{tableT(), manM(), just(2, 87), true, 0, 0},
		{tableT(), manM(), just(2, 88), false, 1, 1},
		// too much at 1 fathom, and within the limits at the surface
		{tableT(), manM(), and(diveU(), at(one(1), one(0)), at(one(0), one(100))), false, 1, 0},
		{tableT(), manM(), and(diveV(), at(one(0), one(50)), at(one(10), one(3)), at(one(10), one(1))), false, 4, 0},
	} {
		if is, e := gas.Surely(x.t, x.m, x.dive); e != api.OK || is != x.is {
			t.Error(i, is, e)
		}
		want := api.OK
		if x.is {
			want = api.ErrNone
		}
		if moment, part, e := gas.Worst(x.t, x.m, x.dive); e != want || moment != x.moment || part != x.part {
			t.Error(i, moment, part, e)
		}
	}
}

// P2.4, P0.2: with a dive that surely keeps the limits, each truth keeps them; with another one, some truth has the first excess, and none has any before
func TestSurelyIsTrue(t *testing.T) {
	r := source(5)
	met := map[string]int{}
	check := func(parts, stages, rates, wide int) {
		table, m, x := anyTable(r, parts), anyMan(r, parts, rates), anyDive(r, stages, wide)
		moment, part := -1, -1
		for y := range truths(m, x) {
			if a, b := excess(table, y); a >= 0 && (moment < 0 || slices.Compare(l(a, b), l(moment, part)) < 0) {
				moment, part = a, b
			}
		}
		want := api.OK
		if moment < 0 {
			moment, part, want = 0, 0, api.ErrNone
			met["sure"]++
		} else if moment == len(x) {
			met["at the surface"]++
		} else {
			met["before"]++
		}
		if is, e := gas.Surely(table, m, x); e != api.OK || is != (want == api.ErrNone) {
			t.Fatal(table, m, x, is, e)
		}
		if a, b, e := gas.Worst(table, m, x); e != want || a != moment || b != part {
			t.Fatal(table, m, x, a, b, e, moment, part)
		}
	}
	for range 1500 {
		check(1, 1, api.GasRates, api.GasWide)
		check(1+r.Intn(3), 2, 2, 1)
		check(1, 4, 3, 1)
	}
	wantAll(t, met, "sure", "at the surface", "before")
}

// P2.4
func TestCrew(t *testing.T) {
	men := []api.GasMan{manM(), manN(), manM(), manN()}
	for i, x := range []struct {
		men  []api.GasMan
		dive []api.GasStage
		want []int
	}{
		{men, diveW(), l(1, 3)}, {men, diveV(), l(0, 1, 2, 3)}, {men, diveU(), nil}, {nil, diveV(), nil}, {men[:1], diveW(), nil},
		{slices.Repeat([]api.GasMan{manN()}, api.GasMen), diveW(), l(0, 1, 2, 3, 4, 5)},
	} {
		if got, e := gas.Crew(tableT(), x.men, x.dive); e != api.OK || !equal(got, x.want) {
			t.Error(i, got, e)
		}
	}
	if got, e := gas.Crew(tableT(), slices.Repeat([]api.GasMan{manM()}, api.GasMen+1), diveV()); e != api.ErrArg || len(got) != 0 {
		t.Error(got, e)
	}
	for i, m := range badMen() {
		if got, e := gas.Crew(tableT(), []api.GasMan{manM(), m}, diveV()); e != api.ErrArg || len(got) != 0 {
			t.Error(i, got, e)
		}
	}
	for i, x := range badDives() {
		if got, e := gas.Crew(tableT(), nil, x); e != api.ErrArg || len(got) != 0 {
			t.Error(i, got, e)
		}
	}
}

// P2.5
func TestLimit(t *testing.T) {
	deep := tableWith(func(t *api.GasTable) { t.Parts[0].Limit, t.Parts[1].Limit = api.GasLimit, api.GasLimit })
	for i, x := range []struct {
		t     api.GasTable
		m     api.GasMan
		depth api.Span
		n     int
		e     api.Errno
	}{
		{tableT(), manM(), one(10), 3, api.OK}, {tableT(), manM(), sp(9, 10), 3, api.OK}, {tableT(), manN(), one(10), 4, api.OK},
		{tableT(), manM(), one(2), api.GasStay, api.OK}, {tableT(), manM(), one(0), api.GasStay, api.OK}, {deep, manM(), one(api.GasDepth), api.GasStay, api.OK},
		{tableT(), manM(), one(api.GasDepth), 0, api.OK},
		{shut(), manM(), one(10), 0, api.ErrNone}, {shut(), manM(), one(0), 0, api.ErrNone},
	} {
		if n, e := gas.Limit(x.t, x.m, x.depth); e != x.e || n != x.n {
			t.Error(i, n, e)
		}
	}
	for i, depth := range badDepths() {
		if n, e := gas.Limit(tableT(), manM(), depth); e != api.ErrArg || n != 0 {
			t.Error(i, n, e)
		}
	}
}

// P2.5: up to it the limits are surely kept, and with a minute more they are not
func TestLimitIsLatest(t *testing.T) {
	r := source(6)
	met := map[string]int{}
	for range 400 {
		table, m, depth := anyTable(r, 2), anyMan(r, 2, 3), span(r, 0, 1+r.Intn(api.GasDepth), 2)
		want, e, kind := 0, api.ErrNone, "never"
		for minutes := range api.GasStay + 1 {
			if !keeps(table, m, dive(at(depth, one(minutes)))) {
				break
			}
			want, e, kind = minutes, api.OK, "some"
		}
		if want == api.GasStay {
			kind = "all"
		}
		met[kind]++
		if n, f := gas.Limit(table, m, depth); f != e || n != want {
			t.Fatal(table, m, depth, n, f, want, e)
		}
	}
	for range 20 {
		table, m := anyTable(r, 1), anyMan(r, 1, 12)
		table.Parts[0].Limit = r.Intn(api.GasAir)
		if n, e := gas.Limit(table, m, one(r.Intn(9))); e != api.ErrNone || n != 0 {
			t.Fatal(table, m, n, e)
		}
	}
	wantAll(t, met, "some", "all")
}

// P2.8
func TestWait(t *testing.T) {
	// with the rate 1, each minute at 20 fathoms brings 3, and each minute at the surface takes 1, down to what the air has
	slow := api.GasMan{Rates: spans(one(1))}
	table := api.GasTable{Parts: []api.GasPart{{Limit: api.GasAir + 240}}}
	for i, x := range []struct {
		t          api.GasTable
		m          api.GasMan
		dive, next []api.GasStage
		n          int
		e          api.Errno
	}{
		{tableT(), manM(), diveV(), diveV(), 11, api.OK},
		{tableT(), manM(), diveV(), nil, 0, api.OK}, {tableT(), manM(), nil, diveV(), 0, api.OK}, {tableT(), manM(), nil, nil, 0, api.OK},
		{tableT(), manM(), diveV(), diveU(), 0, api.ErrNone},
		{table, slow, just(20, 80), just(20, 40), api.GasMinutes, api.OK}, {table, slow, just(20, 80), just(20, 41), api.GasMinutes + 3, api.OK},
		{table, slow, just(20, 80), just(20, 80), api.GasRest, api.OK}, {table, slow, just(20, 80), just(20, 81), 0, api.ErrNone}, {table, slow, just(20, 81), just(20, 1), 0, api.ErrRule},
		{tableT(), manM(), diveW(), nil, 0, api.ErrRule}, {shut(), manM(), nil, nil, 0, api.ErrRule}, {tableT(), manM(), diveU(), diveV(), 0, api.ErrRule},
		{tableT(), manM(), resting(1), resting(2), 0, api.OK}, {tableT(), manM(), resting(3), nil, 0, api.OK}, {tableT(), manM(), nil, resting(3), 0, api.OK},
		{tableT(), manM(), resting(2), resting(2), 0, api.ErrArg}, {tableT(), manM(), resting(4), nil, 0, api.ErrArg}, {tableT(), manM(), nil, resting(4), 0, api.ErrArg},
		// what is wrong in two ways
		{tableT(), manM(), and(diveU(), resting(3)...), nil, 0, api.ErrArg}, {tableT(), manM(), diveU(), just(api.GasDepth+1, 1), 0, api.ErrArg},
	} {
		if n, e := gas.Wait(x.t, x.m, x.dive, x.next); e != x.e || n != x.n {
			t.Error(i, n, e)
		}
	}
	for i, x := range badDives() {
		if n, e := gas.Wait(tableT(), manM(), nil, x); e != api.ErrArg || n != 0 {
			t.Error(i, n, e)
		}
	}
}

// P2.8: no fewer minutes are enough, be they more than a stage can have
func TestWaitIsLeast(t *testing.T) {
	r := source(7)
	met := map[string]int{}
	for range 2000 {
		table, m := anyTable(r, 1), anyMan(r, 1, 1)
		before, next := anyDive(r, 1, 1), anyDive(r, 2, 1)
		if r.Intn(2) == 0 { // slowly, and just within the limits
			rate, depth, minutes := 1+r.Intn(3), 10+r.Intn(20), 20+r.Intn(40)
			m, before = api.GasMan{Rates: spans(one(rate))}, just(depth, minutes)
			table.Parts[0].Limit = breathed(api.GasAir, rate, depth, minutes) + r.Intn(10)
			next = just(depth, r.Intn(minutes+5))
		}
		want, e, kind := 0, api.ErrNone, "never enough"
		if !keeps(table, m, before) {
			e, kind = api.ErrRule, "not kept"
		}
		for minutes := 0; e == api.ErrNone && minutes <= api.GasRest; minutes++ {
			if keeps(table, m, slices.Concat(before, just(0, minutes), next)) {
				want, e, kind = minutes, api.OK, "at once"
			}
		}
		if want > api.GasMinutes {
			kind = "long"
		} else if want > 0 {
			kind = "some"
		}
		met[kind]++
		if n, f := gas.Wait(table, m, before, next); f != e || n != want {
			t.Fatal(table, m, before, next, n, f, want, e)
		}
	}
	wantAll(t, met, "never enough", "not kept", "at once", "some", "long")
}
