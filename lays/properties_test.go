package lays_test

import (
	"slices"
	"testing"

	"ferrule/api"
	"ferrule/cloth"
	"ferrule/lays"
)

// none stands for the rows of a lay that there is not: more than any lay needs.
const none = api.MaxLap + 1

func least(s api.Lap) int {
	n, e := lays.Least(s)
	if e != api.OK {
		return none
	}
	return n
}

func hopes(s api.Lap) int {
	n, e := lays.Hopes(s)
	if e != api.OK {
		return none
	}
	return n
}

// drawn are laps of all sizes up to the largest ones.
func drawn(seed uint64, many int) []api.Lap {
	x := newRandom(seed)
	all := []api.Lap{lapS(), lapT(), laden()}
	for _, k := range knowns() {
		all = append(all, k.s)
	}
	for range many {
		all = append(all,
			x.lap(size{1, 4, 5, 3, 3, 3, 5}),
			x.lap(size{1, 8, 8, 4, 4, 5, 12}),
			x.lap(size{1, api.MaxCols, api.MaxLap, api.MaxPanels, api.MaxRows, 6, api.MaxFaults}),
		)
	}
	return all
}

// truth is the lap in which some flaws are faults, and no others.
func truth(s api.Lap, isFault func(flaw int) bool) api.Lap {
	s = copied(s)
	for i, c := range s.Flaws {
		if isFault(i) {
			s.Faults = append(s.Faults, c)
		}
	}
	s.Flaws = nil
	return s
}

func TestP3_10NoFaultIsCut(t *testing.T) {
	for _, s := range drawn(10, 150) {
		lay, e := lays.Lay(s)
		if e != api.OK {
			continue
		}
		g := gridOf(s.Faults, s.Flaws)
		rows := 0
		for i, p := range lay {
			cells, e := lays.Cells(s, i, p)
			if !g.take(s, cells) || e != api.OK {
				t.Errorf("%+v: Lay = %v, but %v, error %d, cannot be covered", s, lay, cells, e)
			}
			for _, c := range cells {
				rows = max(rows, c.Row+1)
			}
		}
		if needs, e := lays.Needs(s, lay); rows != least(s) || needs != rows || e != api.OK || len(lay) != len(s.Panels) {
			t.Errorf("%+v: Lay = %v: %d rows, and Needs = %d, error %d; want %d", s, lay, rows, needs, e, least(s))
		}
	}
}

// lie draws places for all panels of a lap, which mostly are a lay.
func (x random) lie(s api.Lap, shut ...[]api.Cell) ([]api.Place, bool) {
	g := gridOf(shut...)
	lay := make([]api.Place, len(s.Panels))
panels:
	for _, i := range x.Perm(len(s.Panels)) {
		for range 200 {
			lay[i] = at(x.IntN(s.Length), x.IntN(s.Width), x.IntN(2))
			if g.take(s, shape(s.Panels[i], lay[i])) {
				continue panels
			}
		}
		return nil, false
	}
	return lay, true
}

func TestP3_11TheLeast(t *testing.T) {
	x := newRandom(11)
	many := 0
	for _, s := range drawn(11, 150) {
		if hopes(s) > least(s) {
			t.Errorf("%+v: Hopes = %d, Least = %d", s, hopes(s), least(s))
		}
		if n := least(s); n != none {
			if room, e := lays.Room(s, n); room < areaOf(s) || e != api.OK {
				t.Errorf("%+v: Room of %d = %d, error %d, for %d cells", s, n, room, e, areaOf(s))
			}
		}
		for range 5 {
			if lay, ok := x.lie(s, s.Faults, s.Flaws); ok {
				n, e := lays.Needs(s, lay)
				if n < least(s) || e != api.OK {
					t.Errorf("%+v: Least = %d, but Needs of %v = %d, error %d", s, least(s), lay, n, e)
				}
				many++
			}
			if lay, ok := x.lie(s, s.Faults); ok {
				n, e := lays.Needs(s, lay)
				if n < hopes(s) || e != api.OK {
					t.Errorf("%+v: Hopes = %d, but Needs of %v = %d, error %d", s, hopes(s), lay, n, e)
				}
				many++
			}
		}
	}
	if many < 1000 {
		t.Errorf("%d lays", many)
	}
}

// more returns laps that have one more fault or one more panel than another lap.
func (x random) more(s api.Lap) []api.Lap {
	var all []api.Lap
	fault := cell(x.IntN(s.Length), x.IntN(s.Width))
	if len(s.Faults) < api.MaxFaults && !slices.Contains(slices.Concat(s.Faults, s.Flaws), fault) {
		c := copied(s)
		c.Faults = append(c.Faults, fault)
		all = append(all, c)
	}
	if len(s.Panels) < api.MaxPanels {
		c := copied(s)
		c.Panels = slices.Insert(c.Panels, x.from(0, len(c.Panels)), x.panel(3, 4))
		all = append(all, c)
	}
	return all
}

func TestP3_12MoreFaults(t *testing.T) {
	x := newRandom(12)
	greater := 0
	for _, s := range drawn(12, 150) {
		for _, m := range x.more(s) {
			if least(m) < least(s) || hopes(m) < hopes(s) {
				t.Errorf("%+v: Least = %d, Hopes = %d; %+v: %d, %d", s, least(s), hopes(s), m, least(m), hopes(m))
			}
			if least(m) > least(s) {
				greater++
			}
		}
	}
	if greater < 20 {
		t.Errorf("%d with a greater Least", greater)
	}
}

func TestP3_12LessFlaws(t *testing.T) {
	changed := 0
	for _, s := range drawn(13, 60) {
		for i, c := range s.Flaws {
			without := copied(s)
			without.Flaws = slices.Delete(without.Flaws, i, i+1)
			if least(without) > least(s) {
				t.Errorf("%+v: Least = %d, and %d without the flaw %d", s, least(s), least(without), i)
			}
			if len(s.Faults) == api.MaxFaults {
				continue
			}
			fault := copied(without)
			fault.Faults = append(fault.Faults, c)
			if least(fault) != least(s) || hopes(fault) < hopes(s) {
				t.Errorf("%+v: Least = %d, Hopes = %d, and %d, %d if the flaw %d is a fault", s, least(s), hopes(s), least(fault), hopes(fault), i)
			}
			if least(without) < least(s) && hopes(fault) > hopes(s) {
				changed++
			}
		}
	}
	if changed < 20 {
		t.Errorf("%d flaws that change both", changed)
	}
}

func mirroredCells(s api.Lap, cells []api.Cell) []api.Cell {
	var all []api.Cell
	for _, c := range cells {
		all = append(all, cell(c.Row, s.Width-1-c.Col))
	}
	return all
}

// mirrored is a panel whose columns are numbered from its other edge.
func mirrored(p api.Panel) api.Panel {
	wide := 0
	for _, s := range p.Rows {
		wide = max(wide, s.High)
	}
	var m api.Panel
	for _, s := range p.Rows {
		m.Rows = append(m.Rows, span(wide-s.High, wide-s.Low))
	}
	return m
}

func turned(p api.Panel) api.Panel {
	p = mirrored(p)
	slices.Reverse(p.Rows)
	return p
}

func TestP3_13Turned(t *testing.T) {
	for _, s := range drawn(14, 150) {
		m := copied(s)
		m.Faults, m.Flaws = mirroredCells(s, s.Faults), mirroredCells(s, s.Flaws)
		for i, p := range s.Panels {
			m.Panels[i] = mirrored(p)
		}
		if least(m) != least(s) || hopes(m) != hopes(s) {
			t.Errorf("%+v: Least = %d, Hopes = %d, and %d, %d from the other edge", s, least(s), hopes(s), least(m), hopes(m))
		}
	}
}

// matters are the cells of all flaws that matter.
func matters(s api.Lap) map[api.Cell]bool {
	flaws, _ := lays.Matters(s)
	cells := map[api.Cell]bool{}
	for _, i := range flaws {
		cells[s.Flaws[i]] = true
	}
	return cells
}

func TestP3_13AnyOrder(t *testing.T) {
	x := newRandom(15)
	for _, s := range drawn(15, 80) {
		other := copied(s)
		x.Shuffle(len(s.Faults), func(i, j int) { other.Faults[i], other.Faults[j] = other.Faults[j], other.Faults[i] })
		x.Shuffle(len(s.Flaws), func(i, j int) { other.Flaws[i], other.Flaws[j] = other.Flaws[j], other.Flaws[i] })
		x.Shuffle(len(s.Panels), func(i, j int) { other.Panels[i], other.Panels[j] = other.Panels[j], other.Panels[i] })
		for i, p := range other.Panels {
			if x.IntN(2) == 0 {
				other.Panels[i] = turned(p)
			}
		}
		was, e := lays.Waste(s)
		is, g := lays.Waste(other)
		if least(other) != least(s) || hopes(other) != hopes(s) || is != was || g != e {
			t.Errorf("%+v: Least = %d, Hopes = %d, Waste = %v; %+v: %d, %d, %v", s, least(s), hopes(s), was, other, least(other), hopes(other), is)
		}
		one, two := matters(s), matters(other)
		for _, c := range s.Flaws {
			if one[c] != two[c] {
				t.Errorf("%+v: Matters of %v: %t; %+v: %t", s, c, one[c], other, two[c])
			}
		}
	}
}

func TestP3_14LongerCloth(t *testing.T) {
	found := 0
	for _, s := range drawn(16, 150) {
		for length := s.Length + 1; length <= api.MaxLap; length++ {
			longer := copied(s)
			longer.Length = length
			for name, f := range map[string]func(api.Lap) int{"Least": least, "Hopes": hopes} {
				was, is := f(s), f(longer)
				if was != none && is != was {
					t.Errorf("%+v: %s = %d, and %d with the Length %d", s, name, was, is, length)
				}
				if was == none && is <= s.Length {
					t.Errorf("%+v: %s = %d with the Length %d, but none before", s, name, is, length)
				}
				if was == none && is != none {
					found++
				}
			}
		}
	}
	if found < 20 {
		t.Errorf("%d with a lay on longer cloth alone", found)
	}
}

func TestP3_15EachTruth(t *testing.T) {
	x := newRandom(17)
	between := 0
	for _, s := range drawn(17, 100) {
		for range 8 {
			inTruth := truth(s, func(int) bool { return x.IntN(2) == 0 })
			if len(inTruth.Faults) > api.MaxFaults {
				continue
			}
			n := least(inTruth)
			if n < hopes(s) || n > least(s) {
				t.Errorf("%+v: Hopes = %d, Least = %d, but %d for %+v", s, hopes(s), least(s), n, inTruth)
			}
			if hopes(s) < n && n < least(s) {
				between++
			}
		}
		best, all := truth(s, func(int) bool { return false }), truth(s, func(int) bool { return true })
		if least(best) != hopes(s) {
			t.Errorf("%+v: Hopes = %d, but %d if no flaw is a fault", s, hopes(s), least(best))
		}
		if len(all.Faults) <= api.MaxFaults && least(all) != least(s) {
			t.Errorf("%+v: Least = %d, but %d if all flaws are faults", s, least(s), least(all))
		}
	}
	if between < 5 {
		t.Errorf("%d truths between Hopes and Least", between)
	}
}

// crowded are laps for which many lays are tried: there is none, or none on one row less.
func crowded() []api.Lap {
	uneven := []api.Panel{panel(0, 4, 2, 3, 2, 5), panel(1, 1, 0, 1), panel(6, 6, 0, 1), panel(3, 5, 0, 2, 1, 5, 5, 5), panel(2, 4, 2, 2, 1, 3, 0, 3)}
	hooks := []api.Panel{panel(1, 4, 0, 3, 0, 3), panel(0, 5), panel(2, 6, 0, 5), panel(2, 2, 0, 4, 2, 4, 0, 2), panel(1, 5, 0, 2, 1, 4)}
	alike := slices.Repeat([]api.Panel{panel(0, 3, 0, 4)}, 5)
	return []api.Lap{
		flawed(plain(8, 12, uneven...), cell(9, 4), cell(11, 0), cell(9, 1), cell(10, 1), cell(0, 3), cell(10, 2), cell(10, 5), cell(10, 0)),
		flawed(plain(8, 12, hooks...), cell(10, 4), cell(11, 6), cell(11, 5), cell(10, 0), cell(11, 7), cell(11, 1), cell(11, 0)),
		faulty(plain(8, 12, hooks...), cell(10, 4), cell(11, 6), cell(11, 5), cell(10, 0), cell(11, 7), cell(11, 1), cell(11, 0)),
		flawed(plain(8, 12, alike...), cell(4, 7), cell(10, 0), cell(6, 7), cell(6, 4), cell(11, 5), cell(7, 3), cell(11, 1), cell(6, 5), cell(11, 3), cell(7, 7)),
	}
}

// Laps with the most panels and flaws are answered too, without a wait.
func TestP3_11Crowded(t *testing.T) {
	for _, s := range crowded() {
		for _, x := range ofLap(s) {
			if x.e != api.OK && x.e != api.ErrNone {
				t.Errorf("%+v: %s: error %d", s, x.name, x.e)
			}
		}
		if hopes(s) > least(s) {
			t.Errorf("%+v: Hopes = %d, Least = %d", s, hopes(s), least(s))
		}
	}
}

// gore is a panel whose rows have so many cells each, around its middle.
func gore(widths []int) api.Panel {
	widest := slices.Max(widths)
	var p api.Panel
	for _, width := range widths {
		low := (widest - width) / 2
		p.Rows = append(p.Rows, span(low, low+width-1))
	}
	return p
}

// smallDome draws a dome whose gores are cut to a few millimetres.
func (x random) smallDome() api.Dome {
	d := api.Dome{Bolts: []api.Bolt{{Stretch: span(0, x.from(0, api.MaxStretch))}}, Gores: make([]int, x.from(3, 8)), Slope: x.from(0, 3)}
	for range x.from(1, api.MaxRows) {
		width := x.from(1, api.MaxCols)
		d.Rounds = append(d.Rounds, span(len(d.Gores)*width-x.IntN(4), len(d.Gores)*width+x.IntN(4)))
		d.Widths = append(d.Widths, x.from(0, 20))
	}
	return d
}

func TestP0_12TheGoreOnTheCloth(t *testing.T) {
	x := newRandom(18)
	many := 0
	for range 2000 {
		d := x.smallDome()
		widths, e := cloth.Curve(d)
		if e != api.OK || slices.Min(widths) == 0 || slices.Max(widths) > api.MaxCols {
			continue
		}
		many++
		covered, _ := cloth.Least(d)
		s := plain(slices.Max(widths), len(widths), gore(widths))
		for turned := range 2 {
			lay := []api.Place{at(0, 0, turned)}
			cells, e := lays.Cells(s, 0, lay[0])
			rows, g := lays.Needs(s, lay)
			if len(cells) != covered || rows != len(widths) || e != api.OK || g != api.OK {
				t.Errorf("%+v: Curve = %v covers %d cells, error %d, on %d rows, error %d; want %d", d, widths, len(cells), e, rows, g, covered)
			}
		}
		waste, e := lays.Waste(s)
		if want := s.Width*len(widths) - covered; least(s) != len(widths) || hopes(s) != len(widths) || waste != span(want, want) || e != api.OK {
			t.Errorf("%+v: Curve = %v: Least = %d, Hopes = %d, Waste = %v, error %d; want %d", d, widths, least(s), hopes(s), waste, e, want)
		}
	}
	if many < 300 {
		t.Errorf("%d gores", many)
	}
}
