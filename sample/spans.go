package sample

import (
	"math"

	"rallentando/api"
)

// From is the span from a to b.
func From(a, b int) api.Span { return api.Span{Low: a, High: b} }

// Above is the span above a, to b.
func Above(a, b int) api.Span { return api.Span{Low: a, LowStrict: true, High: b} }

// Below is the span from a on, below b.
func Below(a, b int) api.Span { return api.Span{Low: a, High: b, HighStrict: true} }

// Inside is the span above a, below b.
func Inside(a, b int) api.Span {
	return api.Span{Low: a, LowStrict: true, High: b, HighStrict: true}
}

// On is the span from a on.
func On(a int) api.Span { return api.Span{Low: a, Open: true} }

// Up is the span of all above a.
func Up(a int) api.Span { return api.Span{Low: a, LowStrict: true, Open: true} }

// Spanned are the bounds of spans for t, for u, and for u less t, before anything follows from them.
func Spanned(l [3]api.Span) api.Zone {
	var z api.Zone
	for i, s := range l {
		z[2*i], z[2*i+1] = Most(s.High), Most(-s.Low)
		if s.HighStrict {
			z[2*i] = Less(s.High)
		}
		if s.Open {
			z[2*i] = api.None
		}
		if s.LowStrict {
			z[2*i+1] = Less(-s.Low)
		}
	}
	return z
}

// Ends are the bounds of a time that is in a span: of it, and of 0 less it.
func Ends(s api.Span) (high, low api.Bound) {
	z := Spanned([3]api.Span{s})
	return z[0], z[1]
}

// IsIn tells of a number by quarters whether it is in a span.
func IsIn(x int, s api.Span) bool {
	if x < 4*s.Low || x == 4*s.Low && s.LowStrict {
		return false
	}
	return s.Open || x < 4*s.High || x == 4*s.High && !s.HighStrict
}

// BadSpans are spans that may not be: by an end, by the order of both, and open ones that have something for their high end.
func BadSpans() []api.Span {
	return []api.Span{
		From(1, 0), Inside(1, 0), Above(3, 2), Below(3, 2), From(0, -1), Inside(5, 4), From(5, 0), From(Edge, -Edge), From(Edge, Edge-1), From(0, math.MinInt),
		From(0, Edge+1), Below(0, Edge+1), From(-Edge-1, 0), Above(-Edge-1, 0), From(Edge+1, Edge+1), From(-Edge-1, -Edge-1), From(-Edge-1, Edge+1), From(Edge+1, 0),
		From(0, math.MaxInt), From(math.MinInt, 0), From(math.MinInt, math.MaxInt), From(math.MaxInt, math.MaxInt), From(math.MinInt, math.MinInt), From(math.MinInt+1, math.MaxInt), From(0, 1<<61), From(-1<<61, 0), From(1<<62, 1<<62),
		On(Edge + 1), Up(Edge + 1), On(-Edge - 1), Up(-Edge - 1), On(math.MaxInt), On(math.MinInt), On(-1 << 61), On(1 << 61),
		{Low: 2, High: 4, Open: true}, {Low: -2, High: -1, Open: true}, {High: 1, Open: true}, {High: -1, Open: true}, {High: math.MinInt, Open: true}, {Low: 2, High: Edge, Open: true}, {Low: Edge, High: Edge + 1, Open: true}, {Low: 2, High: math.MaxInt, Open: true},
		{HighStrict: true, Open: true}, {Low: 2, High: 4, HighStrict: true, Open: true}, {Low: -2, LowStrict: true, HighStrict: true, Open: true}, {Low: Edge + 1, High: 1, HighStrict: true, Open: true},
	}
}

// NoSpans are spans that may be, and have nothing in them.
func NoSpans() []api.Span {
	return []api.Span{Above(1, 1), Below(1, 1), Inside(1, 1), Above(0, 0), Below(Edge, Edge), Above(-Edge, -Edge), Inside(Edge, Edge)}
}

// BadWindows are two numbers each that no window goes by: by a number, and by their order.
func BadWindows() [][2]int {
	l := [][2]int{{3, 3}, {0, 0}, {Edge, Edge}, {-Edge, -Edge}, {1, 0}, {0, -1}, {9, 2}, {Edge, -Edge}, {Edge, Edge - 1}, {1 - Edge, -Edge}}
	for _, n := range []int{Edge + 1, -Edge - 1, Edge + 2, 1 << 61, -1 << 61, 1 << 62, -1 << 62, math.MaxInt, math.MaxInt - 1, math.MinInt, math.MinInt + 1} {
		for _, m := range []int{0, 2, Edge, -Edge, n, n - 1, n + 1} {
			l = append(l, [2]int{n, m}, [2]int{m, n})
		}
	}
	return l
}
