package lays

import (
	"slices"

	"ferrule/api"
)

func validLap(s api.Lap) bool {
	return within(s.Width, 1, api.MaxCols) && within(s.Length, 1, api.MaxLap) &&
		len(s.Faults) <= api.MaxFaults && len(s.Flaws) <= api.MaxFaults && validCells(s) &&
		len(s.Panels) <= api.MaxPanels && each(s.Panels, validPanel)
}

// validCells tells whether all faults and flaws are cells of the cloth, and no two of them the same one.
func validCells(s api.Lap) bool {
	seen := map[api.Cell]bool{}
	return each(slices.Concat(s.Faults, s.Flaws), func(c api.Cell) bool {
		again := seen[c]
		seen[c] = true
		return !again && isCell(s, c)
	})
}

// isCell tells whether a cell is one of the cloth.
func isCell(s api.Lap, c api.Cell) bool {
	return within(c.Row, 0, s.Length-1) && within(c.Col, 0, s.Width-1)
}

func validPanel(p api.Panel) bool {
	if !within(len(p.Rows), 1, api.MaxRows) {
		return false
	}
	edge := false
	ok := each(p.Rows, func(s api.Span) bool {
		edge = edge || s.Low == 0
		return within(s.Low, 0, s.High) && s.High < api.MaxCols
	})
	return ok && edge
}

func validPlace(p api.Place) bool {
	return within(p.Row, 0, api.MaxLap) && within(p.Col, 0, api.MaxLap) && within(p.Turned, 0, 1)
}

func within(n, low, high int) bool { return low <= n && n <= high }

// each tells whether something holds of all elements of a list.
func each[E any](list []E, holds func(E) bool) bool {
	return !slices.ContainsFunc(list, func(x E) bool { return !holds(x) })
}
