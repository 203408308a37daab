package seams_test

import (
	"math"
	"reflect"
	"slices"
	"strconv"
	"testing"

	"ferrule/api"
	"ferrule/seams"
)

func copied(f api.Figure) api.Figure {
	f.Dome.Bolts, f.Dome.Gores = slices.Clone(f.Dome.Bolts), slices.Clone(f.Dome.Gores)
	for i := range f.Dome.Bolts {
		f.Dome.Bolts[i].Strips = slices.Clone(f.Dome.Bolts[i].Strips)
	}
	f.Dome.Rounds, f.Dome.Widths = slices.Clone(f.Dome.Rounds), slices.Clone(f.Dome.Widths)
	f.Starts, f.Times = slices.Clone(f.Starts), slices.Clone(f.Times)
	return f
}

// number is one number of a figure, set and checked by itself.
type number struct {
	name      string
	set       func(f *api.Figure, n int)
	low, high int // the least and the greatest one that is valid in G
}

func numbers() []number {
	all := []number{
		// the starts of G are at most 8
		{"Period", func(f *api.Figure, n int) { f.Period = n }, 9, 60},
		{"Run", func(f *api.Figure, n int) { f.Run = n }, 0, 2000},
		{"Near", func(f *api.Figure, n int) { f.Near = n }, 0, 6},
	}
	for i := range figureG().Starts {
		gore := strconv.Itoa(i)
		all = append(all,
			number{"start " + gore, func(f *api.Figure, n int) { f.Starts[i] = n }, 0, 11},
			number{"time " + gore, func(f *api.Figure, n int) { f.Times[i] = n }, 1, 99},
		)
	}
	return all
}

// wrong is a change that alone makes G invalid.
type wrong struct {
	name   string
	change func(f *api.Figure)
	e      api.Errno
}

func wrongs() []wrong {
	all := []wrong{
		{"no starts", func(f *api.Figure) { f.Starts = nil }, api.ErrFigure},
		{"empty starts", func(f *api.Figure) { f.Starts = []int{} }, api.ErrFigure},
		{"a start less", func(f *api.Figure) { f.Starts = f.Starts[:3] }, api.ErrFigure},
		{"a start more", func(f *api.Figure) { f.Starts = append(f.Starts, 0) }, api.ErrFigure},
		{"no times", func(f *api.Figure) { f.Times = nil }, api.ErrFigure},
		{"a time less", func(f *api.Figure) { f.Times = f.Times[:3] }, api.ErrFigure},
		{"a time more", func(f *api.Figure) { f.Times = append(f.Times, 1) }, api.ErrFigure},
		{"a start and a time less", func(f *api.Figure) { f.Starts, f.Times = f.Starts[:3], f.Times[:3] }, api.ErrFigure},
		{"a gore less", func(f *api.Figure) { f.Dome.Gores = f.Dome.Gores[:3] }, api.ErrFigure},
		{"a gore more", func(f *api.Figure) { f.Dome.Gores = append(f.Dome.Gores, 0) }, api.ErrFigure},
		{"Near of half a Period that is odd", func(f *api.Figure) { f.Period, f.Near = 13, 7 }, api.ErrFigure},
		{"Near of a Period of 1", func(f *api.Figure) { f.Period, f.Near, f.Starts = 1, 1, make([]int, 4) }, api.ErrFigure},
		{"Period 0", func(f *api.Figure) { f.Period, f.Near, f.Starts = 0, 0, make([]int, 4) }, api.ErrFigure},
		{"Period 61", func(f *api.Figure) { f.Period = 61 }, api.ErrFigure},
		{"Period below 0", func(f *api.Figure) { f.Period, f.Near = -12, -6 }, api.ErrFigure},
		{"an invalid dome", func(f *api.Figure) { f.Dome.Loss = -1 }, api.ErrDome},
		{"two gores", func(f *api.Figure) { f.Dome.Gores = f.Dome.Gores[:2] }, api.ErrDome},
		{"two of all", func(f *api.Figure) { f.Dome.Gores, f.Starts, f.Times = f.Dome.Gores[:2], f.Starts[:2], f.Times[:2] }, api.ErrDome},
		{"a round", func(f *api.Figure) { f.Dome.Rounds[2].High = 40001 }, api.ErrDome},
		{"an invalid bolt", func(f *api.Figure) { f.Dome.Bolts[1].Wrong = 3 }, api.ErrBolt},
		// the dome comes before its bolts, and these before the figure
		{"a dome and a bolt", func(f *api.Figure) { f.Dome.Slope, f.Dome.Bolts[0].Wrong = 501, 3 }, api.ErrDome},
		{"a dome and a Period", func(f *api.Figure) { f.Dome.Loss, f.Period = -1, 0 }, api.ErrDome},
		{"a bolt and a Period", func(f *api.Figure) { f.Dome.Bolts[0].Wrong, f.Period = 3, 0 }, api.ErrBolt},
		{"an empty figure", func(f *api.Figure) { *f = api.Figure{} }, api.ErrDome},
	}
	for _, x := range numbers() {
		for name, n := range map[string]int{
			" too small": x.low - 1, " too great": x.high + 1, " least of all": math.MinInt, " greatest of all": math.MaxInt,
		} {
			all = append(all, wrong{x.name + name, func(f *api.Figure) { x.set(f, n) }, api.ErrFigure})
		}
	}
	return all
}

func TestP4_1Check(t *testing.T) {
	for _, x := range numbers() {
		for n := x.low; n <= x.high; n++ {
			f := figureG()
			x.set(&f, n)
			if e := seams.Check(f); e != api.OK {
				t.Errorf("%s of %d: error %d", x.name, n, e)
			}
		}
	}
	for _, x := range wrongs() {
		f := figureG()
		x.change(&f)
		if e := seams.Check(f); e != x.e {
			t.Errorf("%s: error %d, want %d", x.name, e, x.e)
		}
	}
}

func TestP4_1CheckEnds(t *testing.T) {
	for i, f := range []api.Figure{
		figureG(), figureH(), lost(), sewing(1, 99, 1), sewing(slices.Repeat([]int{99}, 16)...),
		near(6, 11, 0, 11, 0),
		figure(func(f *api.Figure) { f.Period, f.Near, f.Run = 60, 30, 2000 }),
		figure(func(f *api.Figure) { f.Period, f.Near = 13, 6 }),
		figure(func(f *api.Figure) { f.Period, f.Near, f.Starts = 1, 0, make([]int, 4) }),
		figure(func(f *api.Figure) { f.Period, f.Near, f.Starts = 2, 1, []int{1, 0, 1, 1} }),
		figure(func(f *api.Figure) { f.Period, f.Near, f.Starts = 60, 0, []int{59, 59, 59, 59} }),
	} {
		if e := seams.Check(f); e != api.OK {
			t.Errorf("%d: error %d", i, e)
		}
	}
}

// answer is what a function returned, and whether it returned nothing but an error.
type answer struct {
	name  string
	value any
	zero  bool
	e     api.Errno
}

func answerOf[T any](name string, value T, e api.Errno) answer {
	list := reflect.ValueOf(value)
	zero := list.IsZero() || list.Kind() == reflect.Slice && list.Len() == 0
	return answer{name, value, zero, e}
}

// inTruths are the answers that need a truth, ofSewing those that do not.
func inTruths(f api.Figure, seam int) []answer {
	meets, e := seams.Meets(f, seam)
	bad, g := seams.Bad(f)
	closest, h := seams.Closest(f)
	least, j := seams.Least(f)
	starts, k := seams.Begin(f)
	return []answer{
		answerOf("Meets", meets, e), answerOf("Bad", bad, g), answerOf("Closest", closest, h),
		answerOf("Least", least, j), answerOf("Begin", starts, k),
	}
}

func ofSewing(f api.Figure) []answer {
	soonest, e := seams.Soonest(f)
	begins, g := seams.Plan(f)
	return []answer{answerOf("Soonest", soonest, e), answerOf("Plan", begins, g)}
}

func allOf(f api.Figure, seam int) []answer { return slices.Concat(inTruths(f, seam), ofSewing(f)) }

func wantErrors(t *testing.T, what string, all []answer, e api.Errno) {
	t.Helper()
	for _, x := range all {
		if x.e != e || !x.zero {
			t.Errorf("%s: %s = %v, error %d; want error %d", what, x.name, x.value, x.e, e)
		}
	}
}

// extremes are numbers of no seam.
func extremes() []int { return []int{-1, 16, math.MinInt, math.MaxInt} }

func TestP1InvalidFigures(t *testing.T) {
	for _, x := range wrongs() {
		// a figure without a truth has the same errors
		for _, f := range []api.Figure{figureG(), lost()} {
			x.change(&f)
			for _, seam := range append(extremes(), 0) {
				wantErrors(t, x.name, allOf(f, seam), x.e)
			}
		}
	}
}

func TestP1NoSuchSeam(t *testing.T) {
	for name, f := range map[string]api.Figure{"G": figureG(), "without a truth": lost(), "three gores": exact(10, 3, 1, 3), "sixteen gores": exact(10, 3, 1, 16)} {
		for _, seam := range append(extremes(), len(f.Times)) {
			wantErrors(t, name, inTruths(f, seam)[:1], api.ErrArg)
		}
	}
	if n, e := seams.Meets(exact(10, 20, 1, 16), 15); n != api.Surely || e != api.OK {
		t.Errorf("Meets of the last seam = %d, error %d", n, e)
	}
}

func TestP1NoTruth(t *testing.T) {
	unused := figure(func(f *api.Figure) {
		f.Dome.Bolts = append(f.Dome.Bolts, api.Bolt{Strips: []api.Strip{strip(1000, 1, 1)}})
	})
	for name, f := range map[string]api.Figure{"without a truth": lost(), "a bolt that no gore is of": unused} {
		if e := seams.Check(f); e != api.OK {
			t.Errorf("%s: Check: error %d", name, e)
		}
		for seam := range f.Times {
			wantErrors(t, name, inTruths(f, seam), api.ErrNone)
		}
		for _, x := range ofSewing(f) {
			if x.e != api.OK || x.zero {
				t.Errorf("%s: %s = %v, error %d", name, x.name, x.value, x.e)
			}
		}
	}
}

func TestP1NoBeginnings(t *testing.T) {
	for name, f := range map[string]api.Figure{"G": figureG(), "without a sum": exact(10, 3, 0, 3), "without a step": printed(60, 1000, 29, make([]int, 3), span(0, 60))} {
		all := inTruths(f, 0)
		wantErrors(t, name, all[3:], api.ErrNone)
		for _, x := range slices.Concat(all[:3], ofSewing(f)) {
			if x.e != api.OK {
				t.Errorf("%s: %s: error %d", name, x.name, x.e)
			}
		}
	}
}

// Arguments stay as they are, results are new memory, and the same is returned each time.
func TestP1Memory(t *testing.T) {
	x := newRandom(3)
	for _, f := range []api.Figure{figureG(), figureH(), lost(), x.figure(sizes()["many gores"]), exact(12, 5, 3, 16)} {
		before, first := copied(f), allOf(f, 2)
		for _, x := range allOf(f, 2) {
			if list, ok := x.value.([]int); ok {
				clear(list[:cap(list)])
			}
		}
		if !reflect.DeepEqual(f, before) {
			t.Errorf("%v became %v", before, f)
		}
		for range 20 {
			if again := allOf(f, 2); !reflect.DeepEqual(first, again) {
				t.Errorf("%v: %v, then %v", before, first, again)
			}
		}
	}
}

// The capacity of lists does not matter, and nothing behind their ends is changed.
func TestP1Capacity(t *testing.T) {
	f := figureH()
	starts, times := append(f.Starts, 77, 78), append(f.Times, 87, 88)
	want := allOf(f, 0)
	f.Starts, f.Times = starts[:4], times[:4]
	if !reflect.DeepEqual(allOf(f, 0), want) {
		t.Errorf("%v; want %v", allOf(f, 0), want)
	}
	if !slices.Equal(starts[4:], []int{77, 78}) || !slices.Equal(times[4:], []int{87, 88}) {
		t.Errorf("%v, %v", starts, times)
	}
}

// An empty list is the same as nil.
func TestP1NilAndEmpty(t *testing.T) {
	f := figureG()
	f.Dome.Bolts[1].Strips = []api.Strip{}
	if !reflect.DeepEqual(allOf(f, 0), allOf(figureG(), 0)) {
		t.Errorf("with no strips: %v, with nil: %v", allOf(f, 0), allOf(figureG(), 0))
	}
	f = figureG()
	f.Starts, f.Times = []int{}, []int{}
	wantErrors(t, "with no starts", allOf(f, 0), api.ErrFigure)
}
