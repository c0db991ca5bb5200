package air_test

import (
	"testing"

	"bathyal/air"
	"bathyal/api"
)

// strongMan returns the naked man who can be deepest.
func strongMan() api.AirNaked {
	return api.AirNaked{Breath: just(api.AirSeconds), Sink: just(1), Rise: just(1)}
}

// badMen returns naked men who are not as defined.
func badMen() []api.AirNaked {
	bad := []api.AirNaked{{}}
	for _, s := range badSpans(1, api.AirSeconds) {
		bad = append(bad, api.AirNaked{Breath: s, Sink: just(1), Rise: just(1)})
	}
	for _, s := range badSpans(1, api.AirPace) {
		bad = append(bad, api.AirNaked{Breath: just(9), Sink: s, Rise: just(1)}, api.AirNaked{Breath: just(9), Sink: just(1), Rise: s})
	}
	return bad
}

// P4.6
func TestLeft(t *testing.T) {
	weak := api.AirNaked{Breath: sp(1, api.AirSeconds), Sink: sp(1, api.AirPace), Rise: sp(1, api.AirPace)}
	for i, x := range []struct {
		n     api.AirNaked
		depth int
		want  api.Span
		e     api.Errno
	}{
		{nakedN(), 10, sp(40, 90), api.OK}, {nakedN(), 0, sp(90, 120), api.OK}, {nakedN(), 20, sp(-10, 60), api.OK}, {strongMan(), api.AirDepth, just(220), api.OK}, {weak, api.AirDepth, sp(1-40*40, 220), api.OK},
		{nakedN(), api.AirDepth + 1, api.Span{}, api.ErrArg}, {nakedN(), -1, api.Span{}, api.ErrArg}, {nakedN(), 1<<63 - 1, api.Span{}, api.ErrArg}, {nakedN(), -1 << 63, api.Span{}, api.ErrArg},
	} {
		if s, e := air.Left(x.n, x.depth); e != x.e || s != x.want {
			t.Error(i, s, e)
		}
	}
	for i, n := range badMen() {
		if s, e := air.Left(n, 0); e != api.ErrArg || s != (api.Span{}) {
			t.Error(i, s, e)
		}
	}
}

// P4.6
func TestDeepest(t *testing.T) {
	slow := api.AirNaked{Breath: sp(50, 60), Sink: sp(1, 10), Rise: sp(1, 15)}
	for i, x := range []struct {
		n          api.AirNaked
		work, want int
		e          api.Errno
	}{
		{nakedN(), 30, 12, api.OK}, {nakedN(), 0, 18, api.OK}, {nakedN(), 90, 0, api.OK}, {nakedN(), 86, 0, api.OK}, {nakedN(), 85, 1, api.OK}, {nakedN(), 91, 0, api.ErrNone}, {slow, 0, 2, api.OK}, {slow, 1, 1, api.OK},
		{strongMan(), 220, api.AirDepth, api.OK}, {strongMan(), 0, api.AirDepth, api.OK}, {strongMan(), 221, 39, api.OK}, {strongMan(), api.AirSeconds, 0, api.OK}, {nakedN(), api.AirSeconds, 0, api.ErrNone},
		{nakedN(), -1, 0, api.ErrArg}, {nakedN(), api.AirSeconds + 1, 0, api.ErrArg}, {nakedN(), 1<<63 - 1, 0, api.ErrArg}, {nakedN(), -1 << 63, 0, api.ErrArg},
	} {
		if d, e := air.Deepest(x.n, x.work); e != x.e || d != x.want {
			t.Error(i, d, e)
		}
	}
	for i, n := range badMen() {
		if d, e := air.Deepest(n, 0); e != api.ErrArg || d != 0 {
			t.Error(i, d, e)
		}
	}
}

// P4.6: whatever is true, what is left lies within its bounds, and each end is reached; and the greatest depth is the last one at which always enough is left
func TestNakedOfAny(t *testing.T) {
	r := source(8)
	met := map[any]int{}
	for range 400 {
		n := api.AirNaked{Breath: span(r, 1, api.AirSeconds, 4), Sink: span(r, 1, api.AirPace, 3), Rise: span(r, 1, api.AirPace, 3)}
		if r.Intn(3) == 0 {
			n.Sink, n.Rise = span(r, 1, 3, 1), span(r, 1, 3, 1)
		}
		work := r.Intn(1 + min(api.AirSeconds, n.Breath.High+3))
		want, e := 0, api.ErrNone
		for depth := range api.AirDepth + 1 {
			var left []int
			for breath := n.Breath.Low; breath <= n.Breath.High; breath++ {
				for sink := n.Sink.Low; sink <= n.Sink.High; sink++ {
					for rise := n.Rise.Low; rise <= n.Rise.High; rise++ {
						left = append(left, breath-depth*sink-depth*rise)
					}
				}
			}
			if s, e := air.Left(n, depth); e != api.OK || s != ends(left) {
				t.Fatal(n, depth, s, e)
			}
			if ends(left).Low >= work {
				want, e = depth, api.OK
			}
		}
		d, f := air.Deepest(n, work)
		if f != e || d != want {
			t.Fatal(n, work, d, f, want, e)
		}
		met[e]++
		if e == api.OK {
			met[d == 0]++
			met[d == api.AirDepth]++
		}
	}
	wantAll(t, met, any(api.OK), any(api.ErrNone), any(true), any(false))
}
