package lays

import (
	"math/bits"
	"slices"

	"ferrule/api"
)

// sheet is cells of the cloth: for each row the set of its columns.
type sheet [api.MaxLap]uint8

// sheetOf is the cells of all lists; each of them must be one that some cloth has.
func sheetOf(lists ...[]api.Cell) sheet {
	var s sheet
	for _, cells := range lists {
		for _, c := range cells {
			s[c.Row] |= 1 << c.Col
		}
	}
	return s
}

func (s sheet) with(t sheet) sheet {
	for row := range t {
		s[row] |= t[row]
	}
	return s
}

// meets tells whether two sheets have a cell in common.
func (s sheet) meets(t sheet) bool {
	for row := range t {
		if s[row]&t[row] != 0 {
			return true
		}
	}
	return false
}

// many is how many cells of the first rows are in the sheet.
func (s sheet) many(rows int) int {
	many := 0
	for row := range rows {
		many += bits.OnesCount8(s[row])
	}
	return many
}

// cellsAt are the cells of a panel at a place, row by row; they need not be on the cloth.
func cellsAt(p api.Panel, at api.Place) []api.Cell {
	if at.Turned == 1 {
		p = turned(p)
	}
	var cells []api.Cell
	for k, s := range p.Rows {
		for col := s.Low; col <= s.High; col++ {
			cells = append(cells, api.Cell{Row: at.Row + k, Col: at.Col + col})
		}
	}
	return cells
}

// turned is a panel turned by half.
func turned(p api.Panel) api.Panel {
	wide := 0
	for _, s := range p.Rows {
		wide = max(wide, s.High)
	}
	var t api.Panel
	for _, s := range slices.Backward(p.Rows) {
		t.Rows = append(t.Rows, api.Span{Low: wide - s.High, High: wide - s.Low})
	}
	return t
}

// area is how many cells all panels have.
func area(panels []api.Panel) int {
	many := 0
	for _, p := range panels {
		many += len(cellsAt(p, api.Place{}))
	}
	return many
}
