package gas

import "bathyal/api"

// gauge is what tells a clock's time.
type gauge int

// The gauges of a clock.
const (
	glass gauge = iota
	watch
	gauges
)

// narrow returns what several spans of one number leave, and gives up if they leave nothing.
func narrow(s api.Span, more ...api.Span) api.Span {
	for _, m := range more {
		s.Low, s.High = max(s.Low, m.Low), min(s.High, m.High)
	}
	if s.Low > s.High {
		panic(nothing{})
	}
	return s
}

// left returns what spans of one number leave, or the error if they leave nothing.
func left(spans []api.Span) (api.Span, api.Errno) {
	var s api.Span
	e := attempt(func() { s = narrow(spans[0], spans[1:]...) })
	return s, e
}

// Depth returns between which bounds a depth lies that was sounded.
func Depth(l []api.GasSounding) (api.Span, api.Errno) {
	if !within(len(l), 1, api.GasSoundings) {
		return api.Span{}, api.ErrArg
	}
	var spans []api.Span
	for _, s := range l {
		if !within(s.Read, 0, api.GasDepth) || !ordered(s.Stretch, 0, api.GasStretch, api.GasStretch) || !within(s.Off, 0, api.GasOff) {
			return api.Span{}, api.ErrArg
		}
		spans = append(spans, sounded(s))
	}
	return left(spans)
}

// sounded returns between which bounds a depth lies by one sounding. All depths between them can be true, since one part of a hundred more never stretches a line by more than a fathom.
func sounded(s api.GasSounding) api.Span {
	return api.Span{
		Low:  max(0, stretched(s.Read, s.Stretch.Low)-s.Off),
		High: stretched(s.Read, s.Stretch.High) + s.Off,
	}
}

// stretched returns what a line measures that is stretched by some parts of a hundred.
func stretched(read, parts int) int { return read * (100 + parts) / 100 }

// Minutes returns between which bounds a time lies that was measured.
func Minutes(c api.GasClock) (api.Span, api.Errno) {
	const longest = api.GasGlass*api.GasTurns + api.GasGlass
	if !within(c.Turns, 0, api.GasTurns) || !ordered(c.Glass, 1, api.GasGlass, api.GasGlass) || !ordered(c.Watch, 0, longest, longest) {
		return api.Span{}, api.ErrArg
	}
	spans := [gauges]api.Span{glass: ran(c), watch: c.Watch}
	return left(spans[:])
}

// ran returns between which bounds a time lies by the glass: the last run has begun, and has not come to its end.
func ran(c api.GasClock) api.Span {
	return api.Span{Low: c.Turns * c.Glass.Low, High: (c.Turns+1)*c.Glass.High - 1}
}
