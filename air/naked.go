package air

import "bathyal/api"

// isNaked reports whether a naked man is as defined.
func isNaked(n api.AirNaked) bool {
	return ordered(n.Breath, 1, api.AirSeconds) && ordered(n.Sink, 1, api.AirPace) && ordered(n.Rise, 1, api.AirPace)
}

// left returns between which bounds lies what is left for work at a depth.
func left(n api.AirNaked, depth int) api.Span {
	return api.Span{
		Low:  n.Breath.Low - depth*(n.Sink.High+n.Rise.High),
		High: n.Breath.High - depth*(n.Sink.Low+n.Rise.Low),
	}
}

// Left returns what is left for work at a depth.
func Left(n api.AirNaked, depth int) (api.Span, api.Errno) {
	if !isNaked(n) || !within(depth, 0, api.AirDepth) {
		return api.Span{}, api.ErrArg
	}
	return left(n, depth), api.OK
}

// Deepest returns the greatest depth at which some seconds surely are left.
func Deepest(n api.AirNaked, work int) (int, api.Errno) {
	if !isNaked(n) || !within(work, 0, api.AirSeconds) {
		return 0, api.ErrArg
	}
	for depth := api.AirDepth; depth >= 0; depth-- {
		if left(n, depth).Low >= work {
			return depth, api.OK
		}
	}
	return 0, api.ErrNone
}
