package voyage

import (
	"cmp"
	"math"
	"slices"

	"bathyal/api"
)

// compare returns how two states are ordered in orders.
func compare(a, b api.VoyageState) int {
	return cmp.Or(cmp.Compare(a.Day, b.Day), cmp.Compare(a.Port, b.Port), cmp.Compare(a.Wind, b.Wind), cmp.Compare(a.Water, b.Water))
}

// areInOrder reports whether there are not too many orders, and their states differ and are in order.
func areInOrder(l []api.VoyageOrder) bool {
	if len(l) > api.VoyageOrders {
		return false
	}
	for i := 1; i < len(l); i++ {
		if compare(l[i-1].State, l[i].State) >= 0 {
			return false
		}
	}
	return true
}

// isOrder reports whether an order is as defined.
func (c chart) isOrder(o api.VoyageOrder) bool {
	return c.isState(o.State) && o.State.Port != home && c.allows(o.State) && c.filled(o.State) == o.State && within(o.Act, api.VoyageStay, len(c.Passages)-1)
}

// ordered is a chart with orders: the act of each state that has one.
type ordered struct {
	chart
	acts map[api.VoyageState]int
}

// begunWith returns a chart with orders, or the error of it, of a state, or of the orders.
func begunWith(c api.VoyageChart, s api.VoyageState, l []api.VoyageOrder) (ordered, api.Errno) {
	known, e := begunAt(c, s)
	if e != api.OK || !areInOrder(l) || !all(l, known.isOrder) {
		return ordered{}, api.ErrArg
	}
	acts := map[api.VoyageState]int{}
	for _, o := range l {
		acts[o.State] = o.Act
	}
	return ordered{known, acts}, api.OK
}

// follow returns what the act leads to that is ordered in a state, and gives up if there is none, or it cannot be done.
func (o ordered) follow(s api.VoyageState) step {
	act, is := o.acts[s]
	if !is {
		panic(broken{})
	}
	t, can := o.step(s, act)
	if !can {
		panic(broken{})
	}
	return t
}

// yield returns what the orders surely catch from a state, and gives up if they do not keep.
func (o ordered) yield(s api.VoyageState) int {
	found := map[api.VoyageState]int{}
	var catch func(s api.VoyageState) int
	catch = func(s api.VoyageState) int {
		if s.Port == home {
			return 0
		}
		if caught, is := found[s]; is {
			return caught
		}
		t, least := o.follow(s), math.MaxInt
		for next := range o.states(t) {
			least = min(least, catch(next))
		}
		found[s] = t.caught + least
		return t.caught + least
	}
	return catch(o.filled(s))
}

// play returns the state at home that is reached from a state with the winds of a voyage, and what is caught, and gives up if the orders do not lead there.
func (o ordered) play(s api.VoyageState, winds []int) (api.VoyageState, int) {
	first, caught := s.Day, 0
	for s = o.filled(s); s.Port != home; {
		t := o.follow(s)
		s = t.state
		s.Wind = winds[s.Day-first]
		caught += t.caught
	}
	return s, caught
}

// areWinds reports whether winds are those of a voyage from a state.
func (c chart) areWinds(s api.VoyageState, winds []int) bool {
	if len(winds) != c.End-s.Day+1 || winds[0] != s.Wind {
		return false
	}
	for i := 1; i < len(winds); i++ {
		if !c.isWind(winds[i]) || !has(c.Next[winds[i-1]], winds[i]) {
			return false
		}
	}
	return true
}

// bestOrders returns the best orders from a safe state.
func (c chart) bestOrders(s api.VoyageState) []api.VoyageOrder {
	var l []api.VoyageOrder
	met := map[api.VoyageState]bool{}
	var visit func(s api.VoyageState)
	visit = func(s api.VoyageState) {
		if s.Port == home || met[s] {
			return
		}
		met[s] = true
		act := c.outlook(s).best.act
		l = append(l, api.VoyageOrder{State: s, Act: act})
		t, _ := c.step(s, act)
		for next := range c.states(t) {
			visit(next)
		}
	}
	visit(c.filled(s))
	slices.SortFunc(l, func(a, b api.VoyageOrder) int { return compare(a.State, b.State) })
	return l
}

// Orders returns the best orders from a state.
func Orders(c api.VoyageChart, s api.VoyageState) ([]api.VoyageOrder, api.Errno) {
	known, e := begunAt(c, s)
	if e != api.OK {
		return nil, e
	}
	if !known.outlook(s).safe {
		return nil, api.ErrRule
	}
	l := known.bestOrders(s)
	if len(l) > api.VoyageOrders {
		return nil, api.ErrLong
	}
	return l, api.OK
}

// Keeps reports whether orders keep from a state.
func Keeps(c api.VoyageChart, s api.VoyageState, l []api.VoyageOrder) (bool, api.Errno) {
	o, e := begunWith(c, s, l)
	if e != api.OK {
		return false, e
	}
	return attempt(func() { o.yield(s) }) == api.OK, api.OK
}

// Yield returns what orders surely catch.
func Yield(c api.VoyageChart, s api.VoyageState, l []api.VoyageOrder) (int, api.Errno) {
	o, e := begunWith(c, s, l)
	if e != api.OK {
		return 0, e
	}
	caught := 0
	e = attempt(func() { caught = o.yield(s) })
	return caught, e
}

// Play returns the state at home that is reached by orders with some winds, and what is caught.
func Play(c api.VoyageChart, s api.VoyageState, l []api.VoyageOrder, winds []int) (api.VoyageState, int, api.Errno) {
	o, e := begunWith(c, s, l)
	if e != api.OK || !o.areWinds(s, winds) {
		return api.VoyageState{}, 0, api.ErrArg
	}
	if e := attempt(func() { o.yield(s) }); e != api.OK {
		return api.VoyageState{}, 0, e
	}
	end, caught := o.play(s, winds)
	return end, caught, api.OK
}
