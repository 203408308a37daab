package lays_test

import (
	"math"
	"reflect"
	"slices"
	"strconv"
	"testing"

	"ferrule/api"
	"ferrule/lays"
)

// laden is a valid lap whose cells have all different rows and columns, so that any one number of them can be changed.
func laden() api.Lap {
	return api.Lap{
		Width: 6, Length: 7,
		Faults: []api.Cell{cell(0, 1), cell(2, 2)},
		Flaws:  []api.Cell{cell(1, 3), cell(4, 0)},
		Panels: []api.Panel{panel(0, 1, 0, 1), panel(0, 2), panel(2, 5, 0, 3, 0, 0, 1, 1)},
	}
}

func copied(s api.Lap) api.Lap {
	s.Faults, s.Flaws, s.Panels = slices.Clone(s.Faults), slices.Clone(s.Flaws), slices.Clone(s.Panels)
	for i := range s.Panels {
		s.Panels[i].Rows = slices.Clone(s.Panels[i].Rows)
	}
	return s
}

// number is one number of a lap, set and checked by itself.
type number struct {
	name      string
	set       func(s *api.Lap, n int)
	low, high int // the least and the greatest one that is valid in the lap laden
}

func numbers() []number {
	all := []number{
		{"Width", func(s *api.Lap, n int) { s.Width = n }, 4, 8},
		{"Length", func(s *api.Lap, n int) { s.Length = n }, 5, 12},
	}
	for i := range laden().Faults {
		fault := " of the fault " + strconv.Itoa(i)
		all = append(all,
			number{"Row" + fault, func(s *api.Lap, n int) { s.Faults[i].Row = n }, 0, 6},
			number{"Col" + fault, func(s *api.Lap, n int) { s.Faults[i].Col = n }, 0, 5},
		)
	}
	for i := range laden().Flaws {
		flaw := " of the flaw " + strconv.Itoa(i)
		all = append(all,
			number{"Row" + flaw, func(s *api.Lap, n int) { s.Flaws[i].Row = n }, 0, 6},
			number{"Col" + flaw, func(s *api.Lap, n int) { s.Flaws[i].Col = n }, 0, 5},
		)
	}
	for i, p := range laden().Panels {
		for k, s := range p.Rows {
			row := " of the row " + strconv.Itoa(k) + " of the panel " + strconv.Itoa(i)
			low := s.High
			if len(p.Rows) == 1 { // another row must begin at 0
				low = 0
			}
			all = append(all,
				number{"Low" + row, func(l *api.Lap, n int) { l.Panels[i].Rows[k].Low = n }, 0, low},
				number{"High" + row, func(l *api.Lap, n int) { l.Panels[i].Rows[k].High = n }, s.Low, 7},
			)
		}
	}
	return all
}

// wrong is a change that alone makes the lap laden invalid.
type wrong struct {
	name   string
	change func(s *api.Lap)
}

// spread makes a lap large enough for many cells, without panels, and returns so many of its cells.
func spread(s *api.Lap, many int) []api.Cell {
	*s = plain(8, 12)
	var cells []api.Cell
	for n := range many {
		cells = append(cells, cell(n/8, n%8))
	}
	return cells
}

func wrongs() []wrong {
	all := []wrong{
		{"a fault twice", func(s *api.Lap) { s.Faults[1] = s.Faults[0] }},
		{"a flaw twice", func(s *api.Lap) { s.Flaws[1] = s.Flaws[0] }},
		{"a fault that is a flaw", func(s *api.Lap) { s.Flaws[0] = s.Faults[1] }},
		{"a flaw that is a fault", func(s *api.Lap) { s.Faults = append(s.Faults, s.Flaws[1]) }},
		{"21 faults", func(s *api.Lap) { s.Faults = spread(s, 21) }},
		{"21 flaws", func(s *api.Lap) { s.Flaws = spread(s, 21) }},
		{"21 faults that are one", func(s *api.Lap) { s.Faults = slices.Repeat(s.Faults[:1], 21) }},
		{"six panels", func(s *api.Lap) { s.Panels = slices.Repeat([]api.Panel{panel(0, 0)}, 6) }},
		{"a panel without rows", func(s *api.Lap) { s.Panels[1] = api.Panel{} }},
		{"a panel with empty rows", func(s *api.Lap) { s.Panels[1] = api.Panel{Rows: []api.Span{}} }},
		{"a panel of five rows", func(s *api.Lap) { s.Panels[2] = block(5, 1) }},
		{"a panel that begins at 1", func(s *api.Lap) { s.Panels[0] = panel(1, 2, 2, 3) }},
		{"a panel that begins at 7", func(s *api.Lap) { s.Panels[0] = panel(7, 7) }},
		{"spans below 0", func(s *api.Lap) { s.Panels[2] = panel(-2, -1, 0, 0) }},
		{"spans above all", func(s *api.Lap) { s.Panels[2] = panel(0, 0, 8, 8) }},
		{"an empty lap", func(s *api.Lap) { *s = api.Lap{} }},
		{"a wrong panel behind others", func(s *api.Lap) { s.Panels = append(s.Panels, panel(0, 0), panel(1, 0)) }},
	}
	for _, x := range numbers() {
		for name, n := range map[string]int{
			" too small": x.low - 1, " too great": x.high + 1, " least of all": math.MinInt, " greatest of all": math.MaxInt,
		} {
			all = append(all, wrong{x.name + name, func(s *api.Lap) { x.set(s, n) }})
		}
	}
	return all
}

func TestP3_1Check(t *testing.T) {
	for _, x := range numbers() {
		for n := x.low; n <= x.high; n++ {
			s := laden()
			x.set(&s, n)
			if e := lays.Check(s); e != api.OK {
				t.Errorf("%s of %d: error %d", x.name, n, e)
			}
		}
	}
	for _, x := range wrongs() {
		s := laden()
		x.change(&s)
		if e := lays.Check(s); e != api.ErrLap {
			t.Errorf("%s: error %d", x.name, e)
		}
	}
}

func TestP3_1CheckEnds(t *testing.T) {
	for i, change := range []func(s *api.Lap){
		func(s *api.Lap) {},
		func(s *api.Lap) { *s = plain(1, 1) },
		func(s *api.Lap) { *s = plain(8, 12) },
		func(s *api.Lap) { *s = faulty(plain(1, 1), cell(0, 0)) },
		func(s *api.Lap) { s.Faults = nil },
		func(s *api.Lap) { s.Flaws = nil },
		func(s *api.Lap) { s.Faults = spread(s, 20) },
		func(s *api.Lap) { s.Flaws = spread(s, 20) },
		func(s *api.Lap) {
			all := spread(s, 40)
			s.Faults, s.Flaws = all[20:], all[:20]
		},
		// cells of which only the row, or only the column, is the same
		func(s *api.Lap) { s.Faults, s.Flaws = row(1, 0, 1), row(2, 0, 1) },
		func(s *api.Lap) { s.Panels = slices.Repeat([]api.Panel{panel(0, 0)}, 5) },
		func(s *api.Lap) { s.Panels = nil },
		// panels need not lie on the cloth
		func(s *api.Lap) { *s = plain(1, 1, block(4, 8), panel(7, 7, 0, 0, 3, 4, 1, 7)) },
	} {
		s := laden()
		change(&s)
		if e := lays.Check(s); e != api.OK {
			t.Errorf("%d: error %d", i, e)
		}
	}
}

// answer is what a function returned, and whether it returned nothing but an error.
type answer struct {
	name  string
	value any
	zero  bool
	e     api.Errno
}

func answerOf[T any](name string, value T, e api.Errno) answer {
	list := reflect.ValueOf(value)
	zero := list.IsZero() || list.Kind() == reflect.Slice && list.Len() == 0
	return answer{name, value, zero, e}
}

func ofPlaces(s api.Lap, number int, lay []api.Place) []answer {
	var p api.Place
	if len(lay) > 0 {
		p = lay[0]
	}
	cells, e := lays.Cells(s, number, p)
	needs, g := lays.Needs(s, lay)
	return []answer{answerOf("Cells", cells, e), answerOf("Needs", needs, g)}
}

func ofRows(s api.Lap, rows int) []answer {
	room, e := lays.Room(s, rows)
	return []answer{answerOf("Room", room, e)}
}

// ofLap are the answers about all of a lap, first those that need a lay.
func ofLap(s api.Lap) []answer {
	least, e := lays.Least(s)
	lay, f := lays.Lay(s)
	waste, g := lays.Waste(s)
	hopes, h := lays.Hopes(s)
	flaws, k := lays.Matters(s)
	return []answer{
		answerOf("Least", least, e), answerOf("Lay", lay, f), answerOf("Waste", waste, g),
		answerOf("Hopes", hopes, h), answerOf("Matters", flaws, k),
	}
}

func allOf(s api.Lap, number int, lay []api.Place) []answer {
	return slices.Concat(ofPlaces(s, number, lay), ofRows(s, number), ofLap(s))
}

func wantErrors(t *testing.T, what string, all []answer, e api.Errno) {
	t.Helper()
	for _, x := range all {
		if x.e != e || !x.zero {
			t.Errorf("%s: %s = %v, error %d; want error %d", what, x.name, x.value, x.e, e)
		}
	}
}

// extremes are numbers of no panel and of no rows.
func extremes() []int { return []int{-1, 13, math.MinInt, math.MaxInt} }

// wrongPlaces are none, each by one of its numbers alone.
func wrongPlaces() []api.Place {
	all := []api.Place{at(0, 0, 2)}
	for _, n := range extremes() {
		all = append(all, at(n, 0, 0), at(0, n, 0), at(0, 0, n))
	}
	return all
}

func TestP1InvalidLaps(t *testing.T) {
	for _, x := range wrongs() {
		s := laden()
		x.change(&s)
		for _, n := range append(extremes(), 0) {
			// an invalid lap comes before all that is wrong with a place
			wantErrors(t, x.name, allOf(s, n, []api.Place{at(n, n, n)}), api.ErrLap)
			wantErrors(t, x.name, allOf(s, n, make([]api.Place, len(s.Panels))), api.ErrLap)
		}
	}
}

func TestP1NoSuchNumber(t *testing.T) {
	for name, s := range map[string]api.Lap{"S": lapS(), "T": lapT(), "laden": laden(), "no panels": plain(8, 12)} {
		for _, n := range append(extremes(), len(s.Panels)) {
			wantErrors(t, name, ofPlaces(s, n, nil)[:1], api.ErrArg)
		}
		for _, n := range append(extremes(), s.Length+1) {
			wantErrors(t, name, ofRows(s, n), api.ErrArg)
		}
	}
}

func TestP1NoPlace(t *testing.T) {
	for _, p := range wrongPlaces() {
		for i := range lapT().Panels {
			cells, e := lays.Cells(lapT(), i, p)
			wantErrors(t, "Cells", []answer{answerOf("Cells", cells, e)}, api.ErrArg)
			// a place that is none comes before places that are no lay
			for _, lay := range [][]api.Place{{at(2, 0, 0), at(1, 0, 0), at(3, 1, 1)}, make([]api.Place, 3), {at(12, 0, 0), at(12, 0, 0), at(12, 0, 0)}} {
				lay[i] = p
				needs, e := lays.Needs(lapT(), lay)
				wantErrors(t, "Needs", []answer{answerOf("Needs", needs, e)}, api.ErrArg)
			}
		}
	}
	for _, turned := range []int{0, 1} {
		for n := range 13 {
			if cells, e := lays.Cells(lapT(), 0, at(n, 12-n, turned)); len(cells) != 4 || e != api.OK {
				t.Errorf("Cells = %v, error %d", cells, e)
			}
		}
	}
}

func TestP1NotAsManyPlaces(t *testing.T) {
	lay := []api.Place{at(2, 0, 0), at(1, 0, 0), at(3, 1, 1)}
	for _, x := range []struct {
		s   api.Lap
		lay []api.Place
	}{
		{lapS(), nil}, {lapS(), lay[:1]}, {lapS(), lay}, {lapT(), lay[:2]}, {lapT(), nil}, {lapT(), append(slices.Clone(lay), at(0, 3, 0))},
		{plain(1, 1), lay[:1]}, {plain(1, 1), make([]api.Place, 1)}, {lapS(), make([]api.Place, 3)},
	} {
		n, e := lays.Needs(x.s, x.lay)
		if n != 0 || e != api.ErrArg {
			t.Errorf("Needs of %v = %d, error %d", x.lay, n, e)
		}
	}
}

func TestP1NoLay(t *testing.T) {
	never := lap(func(s *api.Lap) { s.Length = 2 })
	wantErrors(t, "no lay", ofLap(never)[:4], api.ErrNone)
	flaws := flawed(plain(2, 2, block(2, 2)), cell(1, 1))
	wantErrors(t, "a flaw in each lay", ofLap(flaws)[:3], api.ErrNone)
	for _, s := range []api.Lap{never, flaws} {
		if e := lays.Check(s); e != api.OK {
			t.Errorf("Check: error %d", e)
		}
		for _, x := range slices.Concat(ofPlaces(s, 0, nil)[:1], ofRows(s, 1), ofLap(s)[4:]) {
			if x.e != api.OK {
				t.Errorf("%s: error %d", x.name, x.e)
			}
		}
	}
}

// Arguments stay as they are, results are new memory, and the same is returned each time.
func TestP1Memory(t *testing.T) {
	lay := []api.Place{at(2, 0, 0), at(1, 0, 0), at(3, 1, 1)}
	for _, s := range []api.Lap{lapS(), lapT(), laden(), lap(func(s *api.Lap) { s.Flaws = append(s.Flaws, cell(2, 2), cell(3, 0)) })} {
		places := slices.Clone(lay[:len(s.Panels)])
		before, first := copied(s), allOf(s, 0, places)
		for _, x := range allOf(s, 0, places) {
			switch list := x.value.(type) {
			case []int:
				clear(list[:cap(list)])
			case []api.Cell:
				clear(list[:cap(list)])
			case []api.Place:
				clear(list[:cap(list)])
			}
		}
		if !reflect.DeepEqual(s, before) || !slices.Equal(places, lay[:len(places)]) {
			t.Errorf("%v became %v, and %v became %v", before, s, lay, places)
		}
		if !reflect.DeepEqual(first, allOf(s, 0, places)) {
			t.Errorf("%v: %v, then %v", before, first, allOf(s, 0, places))
		}
	}
}

// The capacity of lists does not matter, and nothing behind their ends is changed.
func TestP1Capacity(t *testing.T) {
	s := laden()
	faults, flaws := append(s.Faults, cell(9, 9)), append(s.Flaws, cell(8, 8), cell(7, 7))
	want := allOf(s, 0, nil)
	s.Faults, s.Flaws = faults[:2], flaws[:2]
	if !reflect.DeepEqual(allOf(s, 0, nil), want) {
		t.Errorf("%v; want %v", allOf(s, 0, nil), want)
	}
	if faults[2] != cell(9, 9) || flaws[2] != cell(8, 8) || flaws[3] != cell(7, 7) {
		t.Errorf("%v, %v", faults, flaws)
	}
}

// An empty list is the same as nil.
func TestP1NilAndEmpty(t *testing.T) {
	empty := func(s api.Lap) api.Lap {
		if s.Faults == nil {
			s.Faults = []api.Cell{}
		}
		if s.Flaws == nil {
			s.Flaws = []api.Cell{}
		}
		if s.Panels == nil {
			s.Panels = []api.Panel{}
		}
		return s
	}
	for _, s := range []api.Lap{plain(2, 3), plain(2, 3, block(2, 2)), lap(func(s *api.Lap) { s.Flaws = nil }), lap(func(s *api.Lap) { s.Faults = nil })} {
		if !reflect.DeepEqual(allOf(s, 0, nil), allOf(empty(s), 0, []api.Place{})) {
			t.Errorf("with nil: %v, with no elements: %v", allOf(s, 0, nil), allOf(empty(s), 0, []api.Place{}))
		}
	}
}
