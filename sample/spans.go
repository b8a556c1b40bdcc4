package sample

import "rallentando/api"

// From is the span from a to b.
func From(a, b int) api.Span { return api.Span{Low: a, High: b} }

// Above is the span above a, to b.
func Above(a, b int) api.Span { return api.Span{Low: a, LowStrict: true, High: b} }

// Below is the span from a on, below b.
func Below(a, b int) api.Span { return api.Span{Low: a, High: b, HighStrict: true} }

// Inside is the span above a, below b.
func Inside(a, b int) api.Span {
	return api.Span{Low: a, LowStrict: true, High: b, HighStrict: true}
}

// On is the span from a on.
func On(a int) api.Span { return api.Span{Low: a, Open: true} }

// Up is the span of all above a.
func Up(a int) api.Span { return api.Span{Low: a, LowStrict: true, Open: true} }

// Spanned are the bounds of spans for t, for u, and for u less t, before anything follows from them.
func Spanned(l [3]api.Span) api.Zone {
	var z api.Zone
	for i, s := range l {
		z[2*i], z[2*i+1] = Most(s.High), Most(-s.Low)
		if s.HighStrict {
			z[2*i] = Less(s.High)
		}
		if s.Open {
			z[2*i] = api.None
		}
		if s.LowStrict {
			z[2*i+1] = Less(-s.Low)
		}
	}
	return z
}

// IsIn tells of a number by quarters whether it is in a span.
func IsIn(x int, s api.Span) bool {
	if x < 4*s.Low || x == 4*s.Low && s.LowStrict {
		return false
	}
	return s.Open || x < 4*s.High || x == 4*s.High && !s.HighStrict
}
