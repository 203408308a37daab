package parts

import "ferrule/api"

// split parts lengths, which are ascending spans, into those that are in a span and those that are not.
func split(lengths []api.Span, by api.Span) (in, out []api.Span) {
	for _, l := range lengths {
		in = appendAny(in, api.Span{Low: max(l.Low, by.Low), High: min(l.High, by.High)})
		out = appendAny(out, api.Span{Low: l.Low, High: min(l.High, by.Low-1)})
		out = appendAny(out, api.Span{Low: max(l.Low, by.High+1), High: l.High})
	}
	return in, out
}

// appendAny appends a span if there is any length in it.
func appendAny(lengths []api.Span, s api.Span) []api.Span {
	if s.Low > s.High {
		return lengths
	}
	return append(lengths, s)
}
