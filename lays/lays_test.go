package lays_test

import (
	"slices"
	"testing"

	"ferrule/api"
	"ferrule/lays"
)

func span(low, high int) api.Span { return api.Span{Low: low, High: high} }

func cell(row, col int) api.Cell { return api.Cell{Row: row, Col: col} }

func at(row, col, turned int) api.Place { return api.Place{Row: row, Col: col, Turned: turned} }

// panel is one by the first and the last column of each of its rows.
func panel(ends ...int) api.Panel {
	var p api.Panel
	for i := 0; i < len(ends); i += 2 {
		p.Rows = append(p.Rows, span(ends[i], ends[i+1]))
	}
	return p
}

// block is a panel of so many full rows.
func block(rows, cols int) api.Panel {
	return api.Panel{Rows: slices.Repeat([]api.Span{span(0, cols-1)}, rows)}
}

// row is all cells of a row of the cloth from one column to another.
func row(row, low, high int) []api.Cell {
	var cells []api.Cell
	for col := low; col <= high; col++ {
		cells = append(cells, cell(row, col))
	}
	return cells
}

func plain(width, length int, panels ...api.Panel) api.Lap {
	return api.Lap{Width: width, Length: length, Panels: panels}
}

func faulty(s api.Lap, faults ...api.Cell) api.Lap {
	s.Faults = faults
	return s
}

func flawed(s api.Lap, flaws ...api.Cell) api.Lap {
	s.Flaws = flaws
	return s
}

// lapS and lapT are the laps of the chapter's examples.
func lapS() api.Lap {
	return flawed(faulty(plain(4, 5, block(2, 2), block(1, 3)), cell(0, 1)), cell(1, 3))
}

func lapT() api.Lap {
	s := lapS()
	s.Panels = append(s.Panels, panel(0, 2, 0, 0))
	return s
}

// lap is S with something else in it.
func lap(change func(s *api.Lap)) api.Lap {
	s := lapS()
	change(&s)
	return s
}

func TestP3_2Cells(t *testing.T) {
	for i, x := range []struct {
		s     api.Lap
		panel int
		p     api.Place
		want  []api.Cell
	}{
		{lapT(), 2, at(0, 0, 0), []api.Cell{cell(0, 0), cell(0, 1), cell(0, 2), cell(1, 0)}},
		{lapT(), 2, at(0, 0, 1), []api.Cell{cell(0, 2), cell(1, 0), cell(1, 1), cell(1, 2)}},
		{lapT(), 0, at(2, 1, 0), []api.Cell{cell(2, 1), cell(2, 2), cell(3, 1), cell(3, 2)}},
		{lapT(), 0, at(2, 1, 1), []api.Cell{cell(2, 1), cell(2, 2), cell(3, 1), cell(3, 2)}},
		{plain(8, 12, panel(0, 0)), 0, at(0, 0, 0), []api.Cell{cell(0, 0)}},
		// they may be faults or flaws, or cells of no cloth
		{lapS(), 1, at(0, 0, 0), row(0, 0, 2)}, {lapS(), 1, at(1, 1, 0), row(1, 1, 3)},
		{plain(1, 1, block(1, 8)), 0, at(12, 12, 1), row(12, 12, 19)},
		{plain(1, 1, block(4, 1)), 0, at(12, 0, 0), []api.Cell{cell(12, 0), cell(13, 0), cell(14, 0), cell(15, 0)}},
		// turned by half the last row is the first one, and the rows lie from the greatest column of all
		{plain(8, 4, panel(2, 5, 0, 1, 3, 3)), 0, at(1, 1, 0), slices.Concat(row(1, 3, 6), row(2, 1, 2), row(3, 4, 4))},
		{plain(8, 4, panel(2, 5, 0, 1, 3, 3)), 0, at(1, 1, 1), slices.Concat(row(1, 3, 3), row(2, 5, 6), row(3, 1, 4))},
		{plain(8, 4, panel(0, 0, 7, 7)), 0, at(0, 0, 1), []api.Cell{cell(0, 0), cell(1, 7)}},
		{plain(8, 4, panel(0, 0, 1, 1, 3, 3)), 0, at(0, 0, 1), []api.Cell{cell(0, 0), cell(1, 2), cell(2, 3)}},
	} {
		cells, e := lays.Cells(x.s, x.panel, x.p)
		if !slices.Equal(cells, x.want) || e != api.OK {
			t.Errorf("%d: Cells = %v, error %d; want %v", i, cells, e, x.want)
		}
	}
}

func TestP3_3Needs(t *testing.T) {
	two := func(one, other api.Place) []api.Place { return []api.Place{one, other} }
	corners := plain(3, 4, panel(0, 1, 0, 0), panel(0, 1, 0, 0))
	for i, x := range []struct {
		s    api.Lap
		lay  []api.Place
		want int // -1: the places are not a lay
	}{
		{lapS(), two(at(0, 2, 0), at(2, 0, 0)), 3}, {lapS(), two(at(0, 0, 0), at(2, 0, 0)), -1}, {lapS(), two(at(2, 0, 0), at(1, 0, 0)), 4},
		{lapS(), two(at(1, 0, 1), at(3, 0, 1)), 4}, {lapS(), two(at(3, 2, 0), at(2, 0, 0)), 5},
		// any panel can be the last one
		{lapS(), two(at(1, 0, 0), at(4, 1, 0)), 5}, {lapT(), []api.Place{at(1, 0, 0), at(4, 0, 0), at(1, 1, 1)}, -1},
		{lapT(), []api.Place{at(1, 0, 0), at(3, 0, 0), at(1, 1, 1)}, -1}, {lapT(), []api.Place{at(3, 2, 0), at(2, 0, 0), at(3, 0, 0)}, -1},
		{lapT(), []api.Place{at(3, 0, 0), at(2, 0, 0), at(3, 2, 0)}, -1}, {lapT(), []api.Place{at(2, 0, 0), at(1, 0, 0), at(3, 1, 1)}, 5},
		// flaws may be covered, faults not
		{lapS(), two(at(2, 0, 0), at(1, 1, 0)), 4}, {lapS(), two(at(2, 0, 0), at(0, 0, 0)), -1}, {lapS(), two(at(2, 0, 0), at(0, 1, 0)), -1},
		// all cells are on the cloth
		{lapS(), two(at(4, 0, 0), at(1, 0, 0)), -1}, {lapS(), two(at(2, 3, 0), at(1, 0, 0)), -1}, {lapS(), two(at(2, 0, 0), at(5, 0, 0)), -1},
		{lapS(), two(at(2, 0, 0), at(4, 1, 0)), 5}, {lapS(), two(at(2, 0, 0), at(4, 2, 0)), -1}, {lapS(), two(at(12, 12, 1), at(1, 0, 0)), -1},
		{plain(8, 12, block(4, 8)), []api.Place{at(8, 0, 0)}, 12}, {plain(8, 12, block(4, 8)), []api.Place{at(9, 0, 0)}, -1},
		{plain(8, 12, block(4, 8)), []api.Place{at(8, 1, 0)}, -1}, {plain(7, 12, block(4, 8)), []api.Place{at(8, 0, 0)}, -1},
		// no two panels have a cell in common, but they can lie in each other's corners
		{corners, two(at(0, 0, 0), at(0, 1, 1)), 2}, {corners, two(at(0, 0, 0), at(0, 0, 1)), -1}, {corners, two(at(0, 0, 0), at(1, 0, 1)), 3}, {corners, two(at(0, 0, 0), at(1, 1, 0)), 3},
		{plain(4, 2, panel(0, 2, 0, 0), panel(0, 2, 0, 0)), two(at(0, 0, 0), at(0, 1, 1)), 2},
		{plain(4, 2, panel(0, 2, 0, 0), panel(0, 2, 0, 0)), two(at(0, 0, 1), at(0, 1, 0)), -1},
		// without panels there is nothing to lay
		{plain(4, 5), nil, 0}, {faulty(plain(1, 1), cell(0, 0)), []api.Place{}, 0},
	} {
		n, e := lays.Needs(x.s, x.lay)
		if x.want < 0 && (n != 0 || e != api.ErrNone) || x.want >= 0 && (n != x.want || e != api.OK) {
			t.Errorf("%d: Needs of %v = %d, error %d; want %d", i, x.lay, n, e, x.want)
		}
	}
}

// known is a lap, and what the chapter says of it.
type known struct {
	name         string
	s            api.Lap
	least, hopes int // -1: there is no such lay
	matters      []int
}

func knowns() []known {
	square, stick := block(2, 2), block(1, 2)
	return []known{
		{"S", lapS(), 4, 3, []int{0}},
		{"S without its flaw", lap(func(s *api.Lap) { s.Flaws = nil }), 3, 3, nil},
		{"S with a flaw as fault", lap(func(s *api.Lap) { s.Faults, s.Flaws = append(s.Faults, s.Flaws...), nil }), 4, 4, nil},
		{"S of three rows", lap(func(s *api.Lap) { s.Length = 3 }), -1, 3, []int{0}},
		{"S of two rows", lap(func(s *api.Lap) { s.Length = 2 }), -1, -1, nil},
		{"S of four rows", lap(func(s *api.Lap) { s.Length = 4 }), 4, 3, []int{0}},
		{"T", lapT(), 5, 4, []int{0}},
		{"no panels", lap(func(s *api.Lap) { s.Panels = nil }), 0, 0, nil},
		{"no panels, and all flaws", flawed(plain(2, 1), row(0, 0, 1)...), 0, 0, nil},
		{"all cells", plain(8, 8, block(4, 8), block(4, 8)), 8, 8, nil},
		{"a panel that is wider than the cloth", plain(7, 12, block(1, 8)), -1, -1, nil},
		{"a panel that is longer than the cloth", plain(8, 3, block(4, 1)), -1, -1, nil},
		{"more cells than the cloth has", plain(2, 3, square, square), -1, -1, nil},
		{"cells enough, but not together", faulty(plain(2, 3, square), cell(1, 0)), -1, -1, nil},
		{"one flaw in each place", flawed(plain(2, 3, square), cell(1, 0)), -1, 2, []int{0}},
		// one flaw alone changes nothing if others are in the way
		{"two flaws in each place", flawed(plain(2, 2, square), cell(0, 0), cell(1, 1)), -1, 2, nil},
		{"two flaws in the first row", flawed(plain(2, 3, square), row(0, 0, 1)...), 3, 2, nil},
		{"two flaws, of which any one is enough", flawed(plain(3, 2, stick, stick), cell(0, 1), cell(1, 1)), -1, 2, nil},
		{"either flaw lets one panel lie less far", flawed(plain(3, 4, stick), cell(0, 1), cell(1, 1)), 3, 1, []int{0, 1}},
		{"flaws beside the least rows", flawed(plain(2, 4, square), row(2, 0, 1)...), 2, 2, nil},
		{"flaws that matter, and others", flawed(plain(2, 5, square), cell(4, 0), cell(2, 0), cell(1, 1), cell(3, 1)), -1, 2, []int{2}},
		// panels are turned by half if that is better, but by nothing else
		{"a corner that is turned", faulty(plain(2, 2, panel(0, 1, 0, 0)), cell(0, 0)), 2, 2, nil},
		{"a corner that would have to be mirrored", faulty(plain(2, 2, panel(0, 1, 0, 0)), cell(0, 1)), -1, -1, nil},
		{"a panel across the weave", plain(2, 4, block(1, 3)), -1, -1, nil},
		{"two corners, one of them turned", plain(3, 2, panel(0, 1, 0, 0), panel(0, 1, 0, 0)), 2, 2, nil},
		{"two hooks, one of them turned", plain(4, 2, panel(0, 2, 0, 0), panel(0, 2, 0, 0)), 2, 2, nil},
		{"two steps", plain(2, 3, panel(1, 1, 0, 0), panel(1, 1, 0, 0)), 3, 3, nil},
		{"two different steps", plain(2, 2, panel(1, 1, 0, 0), panel(0, 0, 1, 1)), 2, 2, nil},
		// the order of panels is not that of places
		{"the last panel on top", faulty(plain(4, 4, square, block(1, 4)), cell(1, 0), cell(1, 1)), 3, 3, nil},
		{"the first panel on top", faulty(plain(4, 3, block(1, 4), square), cell(1, 0), cell(1, 1)), 3, 3, nil},
		// the same cells are covered by some panels, and then by others, which leave other panels to be laid
		{"steps and corners", faulty(plain(3, 6, panel(0, 1, 1, 1), panel(1, 1, 0, 1), block(1, 2), panel(0, 0, 0, 1), panel(0, 0, 0, 1)), cell(5, 1), cell(0, 2)), 5, 5, nil},
		{"sticks and boots", faulty(plain(4, 7, block(1, 2), block(3, 1), panel(0, 1, 0, 1, 0, 0), panel(0, 1, 0, 1, 1, 1)), cell(1, 0), cell(3, 0), cell(6, 0)), 5, 5, nil},
		{"boots and bows", faulty(plain(4, 6, panel(1, 1, 0, 1, 0, 1), panel(0, 0, 0, 1, 0, 1), block(2, 1), panel(0, 1, 0, 0, 0, 1), block(3, 1)), cell(0, 2), cell(0, 0), cell(1, 0)), 6, 6, nil},
		{"five panels between faults", faulty(plain(8, 12, block(4, 4), block(4, 4), block(4, 4), block(4, 4), block(4, 4)), cell(0, 4), cell(4, 3), cell(8, 4)), -1, -1, nil},
		{"five panels beside faults", faulty(plain(8, 12, block(4, 4), block(4, 4), block(4, 4), block(4, 4), block(4, 4)), cell(0, 3)), 12, 12, nil},
	}
}

func wantRows(t *testing.T, what string, n int, e api.Errno, want int) {
	t.Helper()
	if want < 0 && (n != 0 || e != api.ErrNone) || want >= 0 && (n != want || e != api.OK) {
		t.Errorf("%s = %d, error %d; want %d", what, n, e, want)
	}
}

func TestP3_4Least(t *testing.T) {
	for _, x := range knowns() {
		n, e := lays.Least(x.s)
		wantRows(t, x.name+": Least", n, e, x.least)
	}
}

func TestP3_5Lay(t *testing.T) {
	for _, x := range knowns() {
		lay, e := lays.Lay(x.s)
		if x.least < 0 {
			if len(lay) != 0 || e != api.ErrNone {
				t.Errorf("%s: Lay = %v, error %d; want none", x.name, lay, e)
			}
			continue
		}
		// the flaws are faults of the lap whose lay it is
		x.s.Faults = append(x.s.Faults, x.s.Flaws...)
		x.s.Flaws = nil
		if len(x.s.Faults) > api.MaxFaults {
			t.Fatalf("%s: too many faults", x.name)
		}
		n, g := lays.Needs(x.s, lay)
		if e != api.OK {
			t.Errorf("%s: Lay = %v, error %d", x.name, lay, e)
		}
		wantRows(t, x.name+": Needs of the Lay", n, g, x.least)
	}
}

func TestP3_6Hopes(t *testing.T) {
	for _, x := range knowns() {
		n, e := lays.Hopes(x.s)
		wantRows(t, x.name+": Hopes", n, e, x.hopes)
	}
}

func TestP3_7Waste(t *testing.T) {
	for i, x := range []struct {
		s    api.Lap
		want api.Span
	}{
		{lapS(), span(5, 9)}, {lap(func(s *api.Lap) { s.Flaws = nil }), span(5, 5)}, {lapT(), span(5, 9)},
		{plain(4, 5), span(0, 0)}, {plain(8, 8, block(4, 8), block(4, 8)), span(0, 0)},
		// faults and flaws are cells that are not covered
		{faulty(plain(2, 3, block(2, 2)), row(0, 0, 1)...), span(2, 2)}, {flawed(plain(2, 3, block(2, 2)), row(0, 0, 1)...), span(0, 2)},
		// rows with gaps between panels
		{plain(8, 12, panel(0, 0, 7, 7)), span(14, 14)}, {plain(5, 2, panel(0, 2, 0, 0), panel(0, 2, 0, 0)), span(2, 2)},
	} {
		s, e := lays.Waste(x.s)
		if s != x.want || e != api.OK {
			t.Errorf("%d: Waste = %v, error %d; want %v", i, s, e, x.want)
		}
	}
	for _, x := range knowns() {
		s, e := lays.Waste(x.s)
		if x.least < 0 && (s != api.Span{} || e != api.ErrNone) || x.least >= 0 && (s.High-s.Low != x.s.Width*(x.least-x.hopes) || e != api.OK) {
			t.Errorf("%s: Waste = %v, error %d", x.name, s, e)
		}
	}
}

func TestP3_8Matters(t *testing.T) {
	for _, x := range knowns() {
		flaws, e := lays.Matters(x.s)
		if !slices.Equal(flaws, x.matters) || e != api.OK {
			t.Errorf("%s: Matters = %v, error %d; want %v", x.name, flaws, e, x.matters)
		}
	}
}

func TestP3_9Room(t *testing.T) {
	for i, x := range []struct {
		s          api.Lap
		rows, want int
	}{
		{lapS(), 0, 0}, {lapS(), 1, 3}, {lapS(), 2, 6}, {lapS(), 3, 10}, {lapS(), 4, 14}, {lapS(), 5, 18},
		{plain(8, 12), 12, 96}, {plain(1, 1), 1, 1}, {faulty(plain(1, 1), cell(0, 0)), 1, 0}, {flawed(plain(1, 1), cell(0, 0)), 1, 0},
		{flawed(faulty(plain(8, 5), slices.Concat(row(0, 0, 7), row(2, 0, 7))...), slices.Concat(row(1, 0, 7), row(4, 1, 7))...), 5, 9},
		// the panels do not matter
		{plain(2, 2, block(4, 8)), 2, 4},
	} {
		n, e := lays.Room(x.s, x.rows)
		if n != x.want || e != api.OK {
			t.Errorf("%d: Room of %d = %d, error %d; want %d", i, x.rows, n, e, x.want)
		}
	}
}
