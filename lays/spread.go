package lays

import (
	"slices"

	"ferrule/api"
)

// cloth is a valid lap with the cells that no panel may cover.
type cloth struct {
	api.Lap
	shut sheet
}

// spread lays out the cloth of a valid lap, on which the cells of some lists are shut.
func spread(s api.Lap, shut ...[]api.Cell) cloth { return cloth{s, sheetOf(shut...)} }

// room is how many cells of the first rows are not shut.
func (c cloth) room(rows int) int { return c.Width*rows - c.shut.many(rows) }

// spot is a place of a panel, and the cells that it covers there.
type spot struct {
	api.Place
	cells sheet
}

// spotAt returns the spot of a panel at a place, unless a cell of it is shut or not on the cloth.
func (c cloth) spotAt(panel int, at api.Place) (spot, bool) {
	list := cellsAt(c.Panels[panel], at)
	if !each(list, func(x api.Cell) bool { return isCell(c.Lap, x) }) {
		return spot{}, false
	}
	cells := sheetOf(list)
	return spot{at, cells}, !cells.meets(c.shut)
}

// needs is how many rows places need, if they are a lay.
func (c cloth) needs(lay []api.Place) (int, api.Errno) {
	rows := 0
	var covered sheet
	for panel, at := range lay {
		x, ok := c.spotAt(panel, at)
		if !ok || x.cells.meets(covered) {
			return 0, api.ErrNone
		}
		covered = covered.with(x.cells)
		rows = max(rows, at.Row+len(c.Panels[panel].Rows))
	}
	return rows, api.OK
}

// spots are all ways in which a panel can lie on the cloth. A panel that is
// the same when it is turned by half lies there in one way only.
func (c cloth) spots(panel int) []*spot {
	turns := 2
	if p := c.Panels[panel]; slices.Equal(p.Rows, turned(p).Rows) {
		turns = 1
	}
	var spots []*spot
	for row := range c.Length {
		for col := range c.Width {
			for turn := range turns {
				x, ok := c.spotAt(panel, api.Place{Row: row, Col: col, Turned: turn})
				if ok {
					spots = append(spots, &x)
				}
			}
		}
	}
	return spots
}
