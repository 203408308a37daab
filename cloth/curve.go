package cloth

import "ferrule/api"

// cut is the widths with which a row is surely tight. There is no other width
// between them, as no end of the round becomes less with a greater width.
func (o opened) cut(row int) (api.Span, api.Errno) {
	found := false
	var cut api.Span
	for width := 2 * o.Loss; width <= api.MaxWidth; width++ {
		if !o.surelyTight(row, width) {
			continue
		}
		if !found {
			cut.Low = width
		}
		cut.High, found = width, true
	}
	if !found {
		return api.Span{}, api.ErrNone
	}
	return cut, api.OK
}

func (o opened) cuts() ([]api.Span, api.Errno) {
	cuts := make([]api.Span, len(o.Rounds))
	for row := range cuts {
		cut, e := o.cut(row)
		if e != api.OK {
			return nil, e
		}
		cuts[row] = cut
	}
	return cuts, api.OK
}

// curve gives each row the least width that its own cut and the least widths
// of its neighbours allow. No widths that are allowed are less in any row, so
// these have the least sum; and if one of them is too great, there are none.
func (o opened) curve() ([]int, api.Errno) {
	cuts, e := o.cuts()
	if e != api.OK {
		return nil, e
	}
	widths := make([]int, len(cuts))
	for row, cut := range cuts {
		widths[row] = cut.Low
		if row > 0 {
			widths[row] = max(cut.Low, widths[row-1]-o.Slope)
		}
	}
	for row := len(widths) - 2; row >= 0; row-- {
		widths[row] = max(widths[row], widths[row+1]-o.Slope)
	}
	for row, cut := range cuts {
		if !in(cut, widths[row]) {
			return nil, api.ErrNone
		}
	}
	return widths, api.OK
}
