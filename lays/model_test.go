package lays_test

import (
	"math/rand/v2"
	"slices"
	"testing"

	"ferrule/api"
	"ferrule/lays"
)

// grid tells of the cells of a cloth which ones are taken.
type grid [api.MaxLap][api.MaxCols]bool

func gridOf(lists ...[]api.Cell) *grid {
	var g grid
	for _, cells := range lists {
		for _, c := range cells {
			g[c.Row][c.Col] = true
		}
	}
	return &g
}

// shape are the cells of a panel at a place, as the chapter defines them, in any order.
func shape(p api.Panel, at api.Place) []api.Cell {
	wide := 0
	for _, s := range p.Rows {
		wide = max(wide, s.High)
	}
	var cells []api.Cell
	for k, s := range p.Rows {
		for col := s.Low; col <= s.High; col++ {
			if at.Turned == 1 {
				cells = append(cells, cell(at.Row+len(p.Rows)-1-k, at.Col+wide-col))
			} else {
				cells = append(cells, cell(at.Row+k, at.Col+col))
			}
		}
	}
	return cells
}

// take takes the cells of a panel, if all of them are free cells of the cloth.
func (g *grid) take(s api.Lap, cells []api.Cell) bool {
	for _, c := range cells {
		if c.Row < 0 || c.Row >= s.Length || c.Col < 0 || c.Col >= s.Width || g[c.Row][c.Col] {
			return false
		}
	}
	for _, c := range cells {
		g[c.Row][c.Col] = true
	}
	return true
}

// model goes through all lays that cover none of some cells.
type model struct {
	s     api.Lap
	turns int
	least int // the rows of the best lay so far, or -1
}

func (m *model) lay(g *grid, panel, rows int) {
	if panel == len(m.s.Panels) {
		if m.least < 0 || rows < m.least {
			m.least = rows
		}
		return
	}
	for row := range m.s.Length {
		for col := range m.s.Width {
			for turned := range m.turns {
				next := *g
				cells := shape(m.s.Panels[panel], at(row, col, turned))
				if next.take(m.s, cells) {
					m.lay(&next, panel+1, max(rows, row+len(m.s.Panels[panel].Rows)))
				}
			}
		}
	}
}

// leastOf is the least number of rows of all lays that cover none of some cells; -1 if there is none.
func leastOf(s api.Lap, turns int, shut ...[]api.Cell) int {
	m := model{s, turns, -1}
	m.lay(gridOf(shut...), 0, 0)
	return m.least
}

func mattersOf(s api.Lap, least int) []int {
	var flaws []int
	for i := range s.Flaws {
		n := leastOf(s, 2, s.Faults, s.Flaws[:i], s.Flaws[i+1:])
		if n >= 0 && (least < 0 || n < least) {
			flaws = append(flaws, i)
		}
	}
	return flaws
}

// needsOf is how many rows places need; -1 if they are not a lay.
func needsOf(s api.Lap, lay []api.Place) int {
	g := gridOf(s.Faults)
	rows := 0
	for i, p := range lay {
		cells := shape(s.Panels[i], p)
		if !g.take(s, cells) {
			return -1
		}
		for _, c := range cells {
			rows = max(rows, c.Row+1)
		}
	}
	return rows
}

func roomOf(s api.Lap, rows int) int {
	g := gridOf(s.Faults, s.Flaws)
	many := 0
	for row := range rows {
		for col := range s.Width {
			if !g[row][col] {
				many++
			}
		}
	}
	return many
}

func areaOf(s api.Lap) int {
	many := 0
	for _, p := range s.Panels {
		many += len(shape(p, api.Place{}))
	}
	return many
}

// compare holds all answers about a lap against those of the model.
func compare(t *testing.T, s api.Lap) {
	t.Helper()
	least, hopes := leastOf(s, 2, s.Faults, s.Flaws), leastOf(s, 2, s.Faults)
	n, e := lays.Least(s)
	wantRows(t, "Least", n, e, least)
	n, e = lays.Hopes(s)
	wantRows(t, "Hopes", n, e, hopes)
	flaws, e := lays.Matters(s)
	if want := mattersOf(s, least); !slices.Equal(flaws, want) || e != api.OK {
		t.Errorf("Matters = %v, error %d; want %v", flaws, e, want)
	}
	waste, e := lays.Waste(s)
	lay, g := lays.Lay(s)
	if least < 0 {
		if e != api.ErrNone || g != api.ErrNone {
			t.Errorf("Waste: error %d; Lay: error %d", e, g)
		}
	} else {
		want := span(s.Width*hopes-areaOf(s), s.Width*least-areaOf(s))
		if waste != want || e != api.OK {
			t.Errorf("Waste = %v, error %d; want %v", waste, e, want)
		}
		if !avoids(s, lay) || needsOf(s, lay) != least || g != api.OK {
			t.Errorf("Lay = %v, error %d; want one of %d rows", lay, g, least)
		}
	}
	for rows := range s.Length + 1 {
		n, e := lays.Room(s, rows)
		wantRows(t, "Room", n, e, roomOf(s, rows))
	}
	if t.Failed() {
		t.Errorf("%+v", s)
	}
}

// avoids tells whether a place for each panel avoids the flaws.
func avoids(s api.Lap, lay []api.Place) bool {
	if len(lay) != len(s.Panels) {
		return false
	}
	for i, p := range lay {
		for _, c := range shape(s.Panels[i], p) {
			if slices.Contains(s.Flaws, c) {
				return false
			}
		}
	}
	return true
}

// random draws laps, always the same ones.
type random struct{ *rand.Rand }

func newRandom(seed uint64) random { return random{rand.New(rand.NewPCG(seed, 3))} }

func (x random) from(low, high int) int { return low + x.IntN(high-low+1) }

func (x random) panel(rows, cols int) api.Panel {
	var p api.Panel
	least := api.MaxCols
	for range x.from(1, rows) {
		a, b := x.IntN(cols), x.IntN(cols)
		p.Rows = append(p.Rows, span(min(a, b), max(a, b)))
		least = min(least, a, b)
	}
	for i := range p.Rows {
		p.Rows[i] = span(p.Rows[i].Low-least, p.Rows[i].High-least)
	}
	return p
}

// size is how many laps are drawn, and how large they are at most.
type size struct{ many, width, length, panels, rows, cols, faults int }

// lap draws one whose cells are mostly enough for its panels.
func (x random) lap(z size) api.Lap {
	s := plain(x.from(1, z.width), x.from(1, z.length))
	for range x.from(0, z.panels) {
		s.Panels = append(s.Panels, x.panel(x.from(1, z.rows), min(z.cols, s.Width+x.IntN(6)/5)))
	}
	var cells []api.Cell
	for _, n := range x.Perm(s.Width * s.Length) {
		cells = append(cells, cell(n/s.Width, n%s.Width))
	}
	faults := min(x.from(0, z.faults), len(cells))
	flaws := min(x.from(0, z.faults), len(cells)-faults)
	s.Faults, s.Flaws = cells[:faults], cells[faults:faults+flaws]
	return s
}

func sizes() map[string]size {
	return map[string]size{
		"small":       {3000, 4, 4, 3, 2, 3, 4},
		"narrow":      {400, 2, 12, 3, 4, 2, 8},
		"wide":        {400, 8, 4, 3, 4, 8, 8},
		"two panels":  {200, 8, 12, 2, 4, 6, 20},
		"many panels": {300, 3, 4, 5, 2, 2, 3},
	}
}

func TestModel(t *testing.T) {
	for name, z := range sizes() {
		t.Run(name, func(t *testing.T) {
			x := newRandom(1)
			for range z.many {
				compare(t, x.lap(z))
				if t.Failed() {
					return
				}
			}
		})
	}
}

// What the tests say of single laps is so.
func TestModelOfKnowns(t *testing.T) {
	for _, x := range knowns() {
		if len(x.s.Panels) < 5 || x.s.Width < api.MaxCols {
			compare(t, x.s)
		}
	}
}

// The places of a panel and of a lay are drawn too, most of them no lay.
func TestModelOfPlaces(t *testing.T) {
	x := newRandom(2)
	met := map[bool]int{}
	for range 60000 {
		s := x.lap(size{1, 6, 6, 3, 3, 4, 4})
		var lay []api.Place
		for i := range s.Panels {
			p := at(x.from(0, s.Length), x.from(0, s.Width), x.IntN(2))
			lay = append(lay, p)
			cells, e := lays.Cells(s, i, p)
			want := shape(s.Panels[i], p)
			slices.SortFunc(want, func(a, b api.Cell) int { return (a.Row-b.Row)*100 + a.Col - b.Col })
			if !slices.Equal(cells, want) || e != api.OK {
				t.Fatalf("%+v: Cells of %d at %v = %v, error %d; want %v", s, i, p, cells, e, want)
			}
		}
		n, e := lays.Needs(s, lay)
		wantRows(t, "Needs", n, e, needsOf(s, lay))
		if t.Failed() {
			t.Fatalf("%+v: %v", s, lay)
		}
		met[len(lay) > 1 && n > 0]++
	}
	if met[true] < 500 {
		t.Errorf("%d lays", met[true])
	}
}

// The laps that are drawn have all that can be known in them.
func TestModelMeetsAll(t *testing.T) {
	met := map[string]int{}
	for _, z := range sizes() {
		x := newRandom(1)
		for range z.many {
			meet(met, x.lap(z))
		}
	}
	for _, name := range []string{
		"none", "hopes alone", "more than hopes", "no more than hopes", "turned", "flaws that make it less",
		"flaws that make it possible", "flaws that do not matter", "none with room",
	} {
		if met[name] < 20 {
			t.Errorf("%s: %d", name, met[name])
		}
	}
}

func meet(met map[string]int, s api.Lap) {
	least, _ := lays.Least(s)
	hopes, e := lays.Hopes(s)
	_, g := lays.Least(s)
	flaws, _ := lays.Matters(s)
	switch {
	case e != api.OK:
		met["none"]++
		if roomOf(s, s.Length) >= areaOf(s) {
			met["none with room"]++
		}
	case g != api.OK:
		met["hopes alone"]++
	case least > hopes:
		met["more than hopes"]++
	case len(s.Panels) > 1:
		met["no more than hopes"]++
	}
	if g == api.OK && leastOf(s, 1, s.Faults, s.Flaws) != least {
		met["turned"]++
	}
	switch {
	case len(flaws) > 0 && g == api.OK:
		met["flaws that make it less"]++
	case len(flaws) > 0:
		met["flaws that make it possible"]++
	case g == api.OK && least > hopes:
		met["flaws that do not matter"]++
	}
}
