package lays

import (
	"slices"

	"ferrule/api"
)

// hand is a panel that is still to be laid, and the spots that are free for it.
type hand struct {
	panel int
	spots []*spot
}

// laid is the cells that some panels cover, and the set of these panels.
type laid struct {
	cells  sheet
	panels uint8
}

// search is a lay, as far as it has come, and what was laid on the way to it
// and left no way to lay the other panels.
type search struct {
	lay    []api.Place
	failed map[laid]bool
}

// shortest returns a lay that covers no cell of some lists and needs as few
// rows as can be, and how many these are.
func shortest(s api.Lap, shut ...[]api.Cell) ([]api.Place, int, api.Errno) {
	if e := Check(s); e != api.OK {
		return nil, 0, e
	}
	c := spread(s, shut...)
	hands := make([]hand, len(c.Panels))
	for panel := range hands {
		hands[panel] = hand{panel, c.spots(panel)}
	}
	for rows := range c.Length + 1 {
		if lay, ok := c.layOn(rows, hands); ok {
			return lay, rows, api.OK
		}
	}
	return nil, 0, api.ErrNone
}

// layOn returns a lay on the first rows, if there is one.
func (c cloth) layOn(rows int, hands []hand) ([]api.Place, bool) {
	if c.room(rows) < area(c.Panels) {
		return nil, false
	}
	left, ok := free(hands, func(h hand, x *spot) bool { return x.Row+len(c.Panels[h.panel].Rows) <= rows })
	if !ok {
		return nil, false
	}
	s := search{make([]api.Place, len(hands)), map[laid]bool{}}
	if !s.fill(laid{}, left) {
		return nil, false
	}
	return s.lay, true
}

// free returns hands with those of their spots that can be, unless one has none.
func free(hands []hand, can func(h hand, x *spot) bool) ([]hand, bool) {
	left := make([]hand, len(hands))
	for i, h := range hands {
		spots := make([]*spot, 0, len(h.spots))
		for _, x := range h.spots {
			if can(h, x) {
				spots = append(spots, x)
			}
		}
		if len(spots) == 0 {
			return nil, false
		}
		left[i] = hand{h.panel, spots}
	}
	return left, true
}

// fill lays the panels that are left, first the one with the fewest spots, and
// tells whether it could. All ways are tried, but what has failed is not tried
// again: the same cells can be covered by the same panels in many orders.
func (s search) fill(done laid, left []hand) bool {
	if len(left) == 0 {
		return true
	}
	if s.failed[done] {
		return false
	}
	first := fewest(left)
	others := slices.DeleteFunc(slices.Clone(left), func(h hand) bool { return h.panel == first.panel })
	for _, x := range first.spots {
		s.lay[first.panel] = x.Place
		rest, ok := free(others, func(_ hand, y *spot) bool { return !y.cells.meets(x.cells) })
		if ok && s.fill(laid{done.cells.with(x.cells), done.panels | 1<<first.panel}, rest) {
			return true
		}
	}
	s.failed[done] = true
	return false
}

// fewest is the hand with the fewest spots.
func fewest(hands []hand) hand {
	return slices.MinFunc(hands, func(a, b hand) int { return len(a.spots) - len(b.spots) })
}
