package cloth_test

import (
	"math"
	"reflect"
	"slices"
	"strconv"
	"testing"

	"ferrule/api"
	"ferrule/cloth"
)

// number is one number of a dome, set and checked by itself.
type number struct {
	name      string
	set       func(d *api.Dome, n int)
	low, high int       // the least and the greatest one that is valid in the dome of fourfold
	e         api.Errno // the error of any other one
}

// numbers are all numbers of the dome that fourfold returns.
func numbers() []number {
	all := []number{
		{"Loss", func(d *api.Dome, n int) { d.Loss = n }, 0, 20, api.ErrDome},
		{"Slope", func(d *api.Dome, n int) { d.Slope = n }, 0, 500, api.ErrDome},
	}
	for i := range fourfold().Gores {
		all = append(all, number{"gore " + strconv.Itoa(i), func(d *api.Dome, n int) { d.Gores[i] = n }, 0, 3, api.ErrDome})
	}
	for i, s := range fourfold().Rounds {
		row := " of the row " + strconv.Itoa(i)
		all = append(all,
			number{"Low" + row, func(d *api.Dome, n int) { d.Rounds[i].Low = n }, 0, s.High, api.ErrDome},
			number{"High" + row, func(d *api.Dome, n int) { d.Rounds[i].High = n }, s.Low, 40000, api.ErrDome},
			number{"width" + row, func(d *api.Dome, n int) { d.Widths[i] = n }, 10, 2000, api.ErrDome},
		)
	}
	for i, b := range fourfold().Bolts {
		all = append(all, numbersOfBolt(i, b)...)
	}
	return all
}

func numbersOfBolt(i int, b api.Bolt) []number {
	bolt := " of the bolt " + strconv.Itoa(i)
	all := []number{
		{"Stretch.Low" + bolt, func(d *api.Dome, n int) { d.Bolts[i].Stretch.Low = n }, 0, b.Stretch.High, api.ErrBolt},
		{"Stretch.High" + bolt, func(d *api.Dome, n int) { d.Bolts[i].Stretch.High = n }, b.Stretch.Low, 60, api.ErrBolt},
		{"Wrong" + bolt, func(d *api.Dome, n int) { d.Bolts[i].Wrong = n }, 0, 2, api.ErrBolt},
	}
	for j, s := range b.Strips {
		strip := " of the strip " + strconv.Itoa(j) + bolt
		all = append(all,
			number{"Long" + strip, func(d *api.Dome, n int) { d.Bolts[i].Strips[j].Long = n }, 1, 2000, api.ErrBolt},
			number{"Pulled.Low" + strip, func(d *api.Dome, n int) { d.Bolts[i].Strips[j].Pulled.Low = n }, 0, s.Pulled.High, api.ErrBolt},
			number{"Pulled.High" + strip, func(d *api.Dome, n int) { d.Bolts[i].Strips[j].Pulled.High = n }, s.Pulled.Low, 4000, api.ErrBolt},
		)
	}
	return all
}

// wrong is a change that alone makes the dome of fourfold invalid.
type wrong struct {
	name   string
	change func(d *api.Dome)
	e      api.Errno
}

func wrongs() []wrong {
	all := []wrong{
		{"no bolts", func(d *api.Dome) { d.Bolts = nil }, api.ErrDome},
		{"empty bolts", func(d *api.Dome) { d.Bolts = []api.Bolt{} }, api.ErrDome},
		{"neither bolts nor gores", func(d *api.Dome) { d.Bolts, d.Gores = nil, nil }, api.ErrDome},
		{"five bolts", func(d *api.Dome) { d.Bolts = append(d.Bolts, d.Bolts[0]) }, api.ErrDome},
		{"three bolts, and a gore of a fourth one", func(d *api.Dome) { d.Bolts = d.Bolts[:3] }, api.ErrDome},
		{"no gores", func(d *api.Dome) { d.Gores = nil }, api.ErrDome},
		{"two gores", func(d *api.Dome) { d.Gores = d.Gores[:2] }, api.ErrDome},
		{"seventeen gores", func(d *api.Dome) { d.Gores = make([]int, 17) }, api.ErrDome},
		{"no rows", func(d *api.Dome) { d.Rounds, d.Widths = nil, nil }, api.ErrDome},
		{"thirteen rows", func(d *api.Dome) { d.Rounds, d.Widths = rows(13), slices.Repeat([]int{10}, 13) }, api.ErrDome},
		{"a width less", func(d *api.Dome) { d.Widths = d.Widths[:2] }, api.ErrDome},
		{"a width more", func(d *api.Dome) { d.Widths = append(d.Widths, 20) }, api.ErrDome},
		{"no widths", func(d *api.Dome) { d.Widths = nil }, api.ErrDome},
		{"a width below a greater Loss", func(d *api.Dome) { d.Loss, d.Widths[2] = 20, 39 }, api.ErrDome},
		{"rounds below 0", func(d *api.Dome) { d.Rounds[1] = span(-2, -1) }, api.ErrDome},
		{"rounds above all", func(d *api.Dome) { d.Rounds[1] = span(40001, 40001) }, api.ErrDome},
		{"stretches below 0", func(d *api.Dome) { d.Bolts[3].Stretch = span(-2, -1) }, api.ErrBolt},
		{"stretches above all", func(d *api.Dome) { d.Bolts[3].Stretch = span(61, 61) }, api.ErrBolt},
		{"nine strips", func(d *api.Dome) { d.Bolts[1].Strips = slices.Repeat(d.Bolts[0].Strips[:1], 9) }, api.ErrBolt},
		{"an empty strip", func(d *api.Dome) { d.Bolts[1].Strips = make([]api.Strip, 1) }, api.ErrBolt},
		{"a strip pulled below 0", func(d *api.Dome) { d.Bolts[0].Strips[1].Pulled = span(-2, -1) }, api.ErrBolt},
		{"a strip pulled above all", func(d *api.Dome) { d.Bolts[0].Strips[1].Pulled = span(4001, 4001) }, api.ErrBolt},
		{"a bolt that no gore is of", func(d *api.Dome) { d.Gores, d.Bolts[3].Wrong = []int{0, 1, 2}, 3 }, api.ErrBolt},
		// the dome comes before its bolts
		{"Slope and Wrong", func(d *api.Dome) { d.Slope, d.Bolts[0].Wrong = 501, 3 }, api.ErrDome},
		{"two gores and stretches", func(d *api.Dome) { d.Gores, d.Bolts[0].Stretch = d.Gores[:2], span(2, 1) }, api.ErrDome},
		{"five bolts and Wrong", func(d *api.Dome) { d.Bolts = append(d.Bolts, api.Bolt{Wrong: 3}) }, api.ErrDome},
	}
	for _, x := range numbers() {
		for name, n := range map[string]int{
			" too small": x.low - 1, " too great": x.high + 1, " least of all": math.MinInt, " greatest of all": math.MaxInt,
		} {
			all = append(all, wrong{x.name + name, func(d *api.Dome) { x.set(d, n) }, x.e})
		}
	}
	return all
}

func TestP2_1Check(t *testing.T) {
	for _, x := range numbers() {
		for _, n := range []int{x.low, (x.low + x.high) / 2, x.high} {
			d := fourfold()
			x.set(&d, n)
			if e := cloth.Check(d); e != api.OK {
				t.Errorf("%s of %d: error %d", x.name, n, e)
			}
		}
	}
	for _, x := range wrongs() {
		d := fourfold()
		x.change(&d)
		if e := cloth.Check(d); e != x.e {
			t.Errorf("%s: error %d, want %d", x.name, e, x.e)
		}
	}
	if e := cloth.Check(api.Dome{}); e != api.ErrDome {
		t.Errorf("the zero dome: error %d", e)
	}
}

func TestP2_1CheckEnds(t *testing.T) {
	for i, change := range []func(d *api.Dome){
		func(d *api.Dome) {},
		func(d *api.Dome) { d.Bolts = append(d.Bolts, d.Bolts...) },
		func(d *api.Dome) { d.Bolts, d.Gores = d.Bolts[:1], []int{0, 0, 0} },
		func(d *api.Dome) { d.Gores = slices.Repeat([]int{1}, 16) },
		func(d *api.Dome) { d.Rounds, d.Widths = rows(1), []int{10} },
		func(d *api.Dome) { d.Rounds, d.Widths = rows(12), slices.Repeat([]int{10}, 12) },
		func(d *api.Dome) { d.Loss, d.Widths = 20, []int{40, 2000, 41} },
		func(d *api.Dome) { d.Loss, d.Widths, d.Slope = 0, []int{0, 0, 0}, 0 },
		func(d *api.Dome) { d.Rounds[0], d.Rounds[1], d.Slope = span(0, 40000), span(40000, 40000), 500 },
		func(d *api.Dome) { d.Bolts[0] = api.Bolt{} },
		func(d *api.Dome) { d.Bolts[0] = api.Bolt{Stretch: span(60, 60), Wrong: 2} },
		func(d *api.Dome) { d.Bolts[0].Strips = slices.Repeat([]api.Strip{strip(1, 0, 4000)}, 8) },
		func(d *api.Dome) { d.Bolts[0].Strips = []api.Strip{strip(2000, 4000, 4000), strip(2000, 0, 0)} },
	} {
		d := dome(change)
		if e := cloth.Check(d); e != api.OK {
			t.Errorf("%d: error %d", i, e)
		}
	}
}

// answer is what a function returned, and whether it returned nothing but an error.
type answer struct {
	name  string
	value any
	zero  bool
	e     api.Errno
}

func answerOf[T any](name string, value T, e api.Errno) answer {
	list := reflect.ValueOf(value)
	zero := list.IsZero() || list.Kind() == reflect.Slice && list.Len() == 0
	return answer{name, value, zero, e}
}

// ofBolts are the answers about a bolt, ofRows those about a row, and ofDome those about all of a dome.
func ofBolts(d api.Dome, bolt int) []answer {
	numbers, e := cloth.Stretches(d, bolt)
	fewest, g := cloth.Fewest(d, bolt)
	return []answer{answerOf("Stretches", numbers, e), answerOf("Fewest", fewest, g)}
}

func ofRows(d api.Dome, row int) []answer {
	round, e := cloth.Round(d, row)
	tight, g := cloth.Tight(d, row)
	cut, h := cloth.Cut(d, row)
	return []answer{answerOf("Round", round, e), answerOf("Tight", tight, g), answerOf("Cut", cut, h)}
}

func ofDome(d api.Dome) []answer {
	loose, e := cloth.Loose(d)
	least, g := cloth.Least(d)
	curve, h := cloth.Curve(d)
	return []answer{answerOf("Loose", loose, e), answerOf("Least", least, g), answerOf("Curve", curve, h)}
}

func allOf(d api.Dome, number int) []answer {
	return slices.Concat(ofBolts(d, number), ofRows(d, number), ofDome(d))
}

func wantErrors(t *testing.T, what string, all []answer, e api.Errno) {
	t.Helper()
	for _, x := range all {
		if x.e != e || !x.zero {
			t.Errorf("%s: %s = %v, error %d; want error %d", what, x.name, x.value, x.e, e)
		}
	}
}

// extremes are numbers of no bolt and of no row.
func extremes() []int { return []int{-1, 12, math.MinInt, math.MaxInt} }

func TestP1InvalidDomes(t *testing.T) {
	// a dome without a truth has the same errors
	lost := func() api.Dome {
		d := fourfold()
		d.Bolts[3].Strips[0].Long = 1
		return d
	}
	wantErrors(t, "without a truth", ofDome(lost()), api.ErrNone)
	for _, x := range wrongs() {
		for _, d := range []api.Dome{fourfold(), lost()} {
			x.change(&d)
			for _, n := range append(extremes(), 0) {
				wantErrors(t, x.name, allOf(d, n), x.e)
			}
		}
	}
}

func TestP1NoSuchNumber(t *testing.T) {
	for name, d := range map[string]api.Dome{"E": domeE(), "without a truth": lost(), "fourfold": fourfold()} {
		for _, n := range append(extremes(), len(d.Bolts)) {
			wantErrors(t, name, ofBolts(d, n), api.ErrArg)
		}
		for _, n := range append(extremes(), len(d.Rounds)) {
			wantErrors(t, name, ofRows(d, n), api.ErrArg)
		}
	}
	// the numbers of rows are not those of bolts
	wantErrors(t, "E", ofBolts(domeE(), 2), api.ErrArg)
	for _, x := range ofRows(domeF(50), 2) {
		if x.e != api.OK {
			t.Errorf("%s of the last row: error %d", x.name, x.e)
		}
	}
	for _, x := range ofRows(fourfold(), 3) {
		if x.e != api.ErrArg {
			t.Errorf("%s of the number of the last bolt: error %d", x.name, x.e)
		}
	}
}

func TestP1NoTruth(t *testing.T) {
	unused := domeE()
	unused.Bolts = append(unused.Bolts, api.Bolt{Strips: []api.Strip{strip(1000, 1, 1)}})
	for name, d := range map[string]api.Dome{"without a truth": lost(), "a bolt that no gore is of": unused} {
		if e := cloth.Check(d); e != api.OK {
			t.Errorf("%s: Check: error %d", name, e)
		}
		for bolt := range d.Bolts {
			all := ofBolts(d, bolt)
			wantErrors(t, name, all[:1], api.ErrNone)
			if all[1].e != api.OK {
				t.Errorf("%s: Fewest of %d: error %d", name, bolt, all[1].e)
			}
		}
		for row := range d.Rounds {
			wantErrors(t, name, ofRows(d, row), api.ErrNone)
		}
		wantErrors(t, name, ofDome(d), api.ErrNone)
	}
}

// Arguments stay as they are, results are new memory, and the same is returned each time.
func TestP1Memory(t *testing.T) {
	for _, d := range []api.Dome{domeF(50), fourfold(), domeE()} {
		before, first := copied(d), allOf(d, 1)
		for _, x := range allOf(d, 1) {
			if list, ok := x.value.([]int); ok {
				clear(list[:cap(list)])
			}
		}
		if !reflect.DeepEqual(d, before) {
			t.Errorf("%v became %v", before, d)
		}
		if !reflect.DeepEqual(first, allOf(d, 1)) {
			t.Errorf("%v: %v, then %v", before, first, allOf(d, 1))
		}
	}
}

// An empty list is the same as nil.
func TestP1NilAndEmpty(t *testing.T) {
	d := domeE()
	d.Bolts[1].Strips = []api.Strip{}
	for n := range 2 {
		if !reflect.DeepEqual(allOf(d, n), allOf(domeE(), n)) {
			t.Errorf("with no strips: %v, with nil: %v", allOf(d, n), allOf(domeE(), n))
		}
	}
}
