package seams_test

import (
	"slices"
	"testing"

	"ferrule/api"
	"ferrule/seams"
)

func span(low, high int) api.Span { return api.Span{Low: low, High: high} }

func strip(long, low, high int) api.Strip { return api.Strip{Long: long, Pulled: span(low, high)} }

// domeE is the dome E of the chapter 2.
func domeE() api.Dome {
	return api.Dome{
		Bolts: []api.Bolt{
			{Stretch: span(0, 20), Strips: []api.Strip{strip(1000, 1005, 1010)}},
			{Stretch: span(0, 10)},
		},
		Gores:  []int{0, 0, 1, 1},
		Loss:   5,
		Rounds: []api.Span{span(400, 404), span(600, 650), span(803, 806)},
		Widths: []int{110, 165, 210},
		Slope:  50,
	}
}

// figureG and figureH are the figures of the chapter's examples.
func figureG() api.Figure {
	return api.Figure{Dome: domeE(), Period: 12, Run: 100, Near: 1, Starts: []int{0, 3, 8, 0}, Times: []int{5, 3, 8, 2}}
}

func figureH() api.Figure { return figure(func(f *api.Figure) { f.Near = 2 }) }

// figure is G with something else in it.
func figure(change func(f *api.Figure)) api.Figure {
	f := figureG()
	change(&f)
	return f
}

// near is G with another Near and other starts.
func near(near int, starts ...int) api.Figure {
	return figure(func(f *api.Figure) { f.Near, f.Starts = near, starts })
}

// lost is a figure whose dome has no truth: two strips of its first bolt say different things.
func lost() api.Figure {
	return figure(func(f *api.Figure) {
		f.Dome.Bolts[0].Strips = append(f.Dome.Bolts[0].Strips, strip(1000, 1050, 1060))
	})
}

// printed is a figure of gores of bolts that stretch by some numbers, with the starts 0.
func printed(period, run, near int, gores []int, stretches ...api.Span) api.Figure {
	d := api.Dome{Gores: gores, Rounds: []api.Span{span(0, 0)}, Widths: []int{0}}
	for _, s := range stretches {
		d.Bolts = append(d.Bolts, api.Bolt{Stretch: s})
	}
	return api.Figure{
		Dome: d, Period: period, Run: run, Near: near,
		Starts: make([]int, len(gores)), Times: slices.Repeat([]int{1}, len(gores)),
	}
}

// exact is a figure of so many gores that do not stretch.
func exact(period, run, near, gores int) api.Figure {
	return printed(period, run, near, make([]int, gores), span(0, 0))
}

// sewing is a figure with these times.
func sewing(times ...int) api.Figure {
	f := exact(1, 0, 0, len(times))
	f.Times = times
	return f
}

func starting(f api.Figure, starts ...int) api.Figure {
	f.Starts = starts
	return f
}

const (
	surely  = api.Surely
	never   = api.Never
	perhaps = api.Perhaps
)

// known is a figure, and what is known of each of its seams.
type known struct {
	f     api.Figure
	seams []int
}

func knowns() []known {
	two := []int{0, 0, 1}
	// the numbers 5 to 10 and 18 to 20: gores of 1005 to 1010 and 1018 to 1020
	gap := func(near int, starts ...int) api.Figure {
		return figure(func(f *api.Figure) {
			f.Dome.Bolts[0].Wrong, f.Dome.Bolts[0].Strips = 1, append(f.Dome.Bolts[0].Strips, strip(1000, 1018, 1040))
			f.Period, f.Run, f.Near, f.Starts = 50, 1000, near, starts
		})
	}
	return []known{
		{figureG(), []int{perhaps, surely, surely, never}},
		{figureH(), []int{surely, surely, surely, never}},
		{near(0, 0, 3, 8, 0), []int{never, perhaps, perhaps, never}},
		{near(6, 0, 3, 8, 0), []int{surely, surely, surely, surely}},
		// the ends are 4 or 5 after the starts; with the Near 5 only those at 6 are too far
		{near(5, 0, 10, 8, 6), []int{perhaps, perhaps, perhaps, surely}},
		{near(5, 0, 11, 9, 7), []int{perhaps, perhaps, perhaps, surely}},
		{near(0, 4, 8, 1, 5), []int{perhaps, perhaps, perhaps, never}},
		// around the Period both ways
		{near(1, 8, 0, 4, 11), []int{surely, surely, never, never}}, {near(1, 7, 0, 4, 9), []int{surely, surely, surely, never}},
		{near(1, 8, 1, 6, 11), []int{surely, surely, surely, never}}, {near(2, 9, 11, 5, 10), []int{perhaps, surely, surely, never}},
		{near(3, 8, 10, 5, 10), []int{surely, surely, surely, never}}, {near(6, 11, 10, 9, 8), []int{surely, surely, surely, surely}},
		// the last seam joins the last gore with the first one
		{near(1, 4, 9, 1, 0), []int{surely, surely, never, surely}}, {near(1, 5, 9, 1, 0), []int{surely, surely, never, surely}},
		{near(1, 6, 9, 1, 0), []int{perhaps, surely, never, perhaps}},
		// without any stretch
		{exact(10, 20, 0, 3), []int{surely, surely, surely}}, {exact(10, 27, 0, 3), []int{never, never, never}},
		{exact(10, 27, 3, 3), []int{surely, surely, surely}}, {exact(10, 27, 2, 3), []int{never, never, never}},
		{exact(10, 23, 2, 3), []int{never, never, never}}, {exact(10, 23, 3, 3), []int{surely, surely, surely}},
		{starting(exact(10, 27, 0, 3), 1, 8, 5), []int{surely, surely, never}}, {starting(exact(10, 3, 1, 3), 9, 3, 5), []int{surely, surely, surely}},
		{starting(exact(60, 0, 0, 3), 59, 59, 59), []int{surely, surely, surely}}, {exact(1, 2000, 0, 16), slices.Repeat([]int{surely}, 16)},
		// a Period that is odd: 6 and 7 are as far from 0
		{starting(exact(13, 0, 6, 4), 0, 6, 0, 7), []int{surely, surely, surely, surely}},
		{starting(exact(13, 0, 5, 4), 0, 6, 0, 7), []int{never, never, never, never}},
		// pulled before the start is added, and rounded down: 199 becomes 199 by 5, and 200 by 10
		{printed(60, 199, 0, two, span(5, 5), span(10, 10)), []int{never, never, never}},
		{starting(printed(60, 199, 0, two, span(5, 5), span(10, 10)), 21, 40, 59), []int{surely, surely, never}},
		{starting(printed(60, 199, 0, two, span(5, 5), span(10, 10)), 39, 58, 19), []int{surely, never, surely}},
		{starting(printed(60, 199, 0, two, span(5, 6), span(10, 10)), 39, 58, 19), []int{perhaps, never, surely}},
		{printed(60, 2000, 0, two, span(60, 60), span(50, 50)), []int{never, never, surely}},
		{starting(printed(60, 2000, 0, two, span(60, 60), span(50, 50)), 0, 20, 40), []int{surely, surely, never}},
		// each gore is of its own bolt, and one that stretches by more does not matter for the others
		{printed(60, 1000, 0, two, span(20, 20), span(0, 60)), []int{surely, surely, perhaps}},
		{printed(60, 1000, 0, []int{1, 0, 0}, span(20, 20), span(0, 60)), []int{perhaps, surely, surely}},
		{printed(60, 1000, 30, two, span(20, 20), span(0, 60)), []int{surely, surely, surely}},
		{printed(60, 1000, 29, two, span(20, 20), span(0, 60)), []int{surely, surely, perhaps}},
		// all numbers matter, not only the least and the greatest: the ends are 0 to 39 and 0 again, and 20 alone is too far
		{starting(printed(40, 1000, 19, two, span(0, 0), span(20, 60)), 0, 0, 20), []int{surely, never, perhaps}},
		{starting(printed(40, 1000, 0, two, span(0, 0), span(19, 41)), 0, 0, 0), []int{surely, surely, perhaps}},
		// strips that are false leave a gap, in which no truth is
		{gap(0, 0, 12, 0, 0), []int{never, never, perhaps, perhaps}}, {gap(1, 0, 12, 0, 0), []int{never, never, perhaps, perhaps}},
		{gap(2, 0, 12, 0, 0), []int{perhaps, never, perhaps, perhaps}}, {gap(7, 0, 12, 25, 30), []int{perhaps, perhaps, surely, never}},
		{gap(8, 0, 12, 24, 0), []int{surely, surely, never, perhaps}},
	}
}

func TestP4_2MeetsAndP4_3Bad(t *testing.T) {
	for i, x := range knowns() {
		var want []int
		for seam, n := range x.seams {
			if n != surely {
				want = append(want, seam)
			}
			if got, e := seams.Meets(x.f, seam); got != n || e != api.OK {
				t.Errorf("%d: Meets of %d = %d, error %d; want %d", i, seam, got, e, n)
			}
		}
		if bad, e := seams.Bad(x.f); !slices.Equal(bad, want) || e != api.OK {
			t.Errorf("%d: Bad = %v, error %d; want %v", i, bad, e, want)
		}
	}
}

// none stands for the waste of beginnings that there are not.
const none = -1

// wasted is a figure, its Least, and its Closest.
type wasted struct {
	f              api.Figure
	least, closest int
}

func wastes() []wasted {
	three, two := make([]int, 3), []int{0, 0, 1}
	return []wasted{
		{figureG(), none, 2}, {figureH(), 12, 2}, {near(0, 0, 3, 8, 0), none, 2},
		// the starts that there are do not matter
		{near(2, 11, 11, 11, 11), 12, 2}, {near(2, 0, 0, 0, 0), 12, 2},
		// a greater Near: the steps are 2 to 7, 1 to 8, 0 to 9 and all
		{near(3, 0, 0, 0, 0), 10, 2}, {near(4, 0, 0, 0, 0), 7, 2}, {near(5, 0, 0, 0, 0), 0, 2}, {near(6, 0, 0, 0, 0), 0, 2},
		// without any stretch
		{exact(10, 20, 0, 3), 0, 0}, {exact(9, 3, 0, 3), 9, 0}, {exact(10, 3, 0, 3), none, 1}, {exact(10, 3, 1, 3), 8, 1},
		{exact(1, 7, 0, 3), 0, 0}, {exact(5, 1, 2, 3), 0, 1}, {exact(60, 15, 0, 4), 90, 0}, {exact(60, 20, 0, 3), 60, 0},
		{exact(2, 1, 0, 3), none, 1}, {exact(2, 1, 1, 3), 0, 1}, {exact(2, 1, 0, 4), 2, 0}, {exact(3, 1, 0, 4), none, 1}, {exact(3, 1, 1, 4), 0, 1},
		{exact(60, 30, 0, 16), 240, 0}, {exact(60, 59, 0, 16), none, 1}, {exact(60, 59, 1, 16), 0, 1},
		{exact(60, 0, 0, 16), 0, 0}, {exact(60, 0, 30, 16), 0, 0},
		// three steps of 10 lack 10 of twice 20, three of 5 are 3 more than 12
		{exact(20, 10, 3, 3), none, 4}, {exact(20, 10, 4, 3), 18, 4}, {exact(20, 10, 9, 3), 3, 4},
		{exact(12, 5, 0, 3), none, 1}, {exact(12, 5, 1, 3), 12, 1},
		// cloth that stretches: 1000 to 1060, to all numbers of a Period of 60
		{printed(60, 1000, 29, three, span(0, 60)), none, 30}, {printed(60, 1000, 30, three, span(0, 60)), 0, 30},
		{printed(60, 1000, 0, three, span(20, 20)), 0, 0}, {printed(60, 1000, 1, three, span(19, 21)), 0, 1},
		{printed(60, 1000, 0, three, span(19, 21)), none, 1}, {printed(60, 1000, 1, three, span(18, 20)), none, 2},
		{printed(60, 1000, 2, three, span(18, 20)), 0, 2},
		// gores of different bolts: 1000, which is 40, and 1010, 1040 and 1030, which are 50, 20 and 10
		{printed(60, 1000, 0, two, span(0, 0), span(10, 10)), none, 4}, {printed(60, 1000, 0, two, span(0, 0), span(40, 40)), none, 7},
		{printed(60, 1000, 0, []int{0, 1, 1}, span(0, 0), span(30, 30)), 30, 0},
		{printed(60, 1000, 0, two, span(40, 40), span(40, 40)), 60, 0}, {printed(60, 1000, 0, two, span(20, 20), span(50, 50)), none, 10},
		{printed(60, 1000, 10, two, span(20, 20), span(50, 50)), 30, 10},
		// numbers farther from each other than Near around both ways
		{printed(60, 2000, 14, three, span(10, 40)), none, 30}, {printed(60, 2000, 29, three, span(10, 40)), none, 30},
	}
}

// wantBeginnings checks that starts are beginnings of a figure.
func wantBeginnings(t *testing.T, f api.Figure, starts []int) {
	t.Helper()
	if bad, e := seams.Bad(starting(f, starts...)); len(bad) > 0 || e != api.OK {
		t.Errorf("Bad of %v = %v, error %d", starts, bad, e)
	}
}

func sum(list []int) int {
	all := 0
	for _, n := range list {
		all += n
	}
	return all
}

func TestP4_4LeastAndP4_5Begin(t *testing.T) {
	for i, x := range wastes() {
		want, e := x.least, api.OK
		if x.least == none {
			want, e = 0, api.ErrNone
		}
		least, g := seams.Least(x.f)
		starts, h := seams.Begin(x.f)
		if least != want || g != e || sum(starts) != want || h != e {
			t.Errorf("%d: Least = %d, error %d; Begin = %v, error %d; want %d, error %d", i, least, g, starts, h, want, e)
		}
		if h == api.OK {
			wantBeginnings(t, x.f, starts)
		}
	}
}

func TestP4_5Begin(t *testing.T) {
	for i, x := range []struct {
		f    api.Figure
		want []int // the only beginnings with the least waste
	}{
		{near(6, 1, 2, 3, 4), []int{0, 0, 0, 0}}, {exact(10, 20, 0, 3), []int{0, 0, 0}}, {exact(1, 7, 0, 16), make([]int, 16)},
		// two gores of 0 and one of 40, which is no multiple of 60
		{printed(60, 1000, 0, []int{0, 0, 1}, span(20, 20), span(0, 0)), nil},
		// two gores of 10 and one of 40
		{printed(60, 1000, 0, []int{0, 1, 1}, span(0, 0), span(30, 30)), []int{20, 0, 10}},
		{printed(60, 1000, 0, []int{1, 0, 1}, span(0, 0), span(30, 30)), []int{10, 20, 0}},
		{printed(60, 1000, 0, []int{1, 1, 0}, span(0, 0), span(30, 30)), []int{0, 10, 20}},
	} {
		starts, e := seams.Begin(x.f)
		want := api.OK
		if x.want == nil {
			want = api.ErrNone
		}
		if !slices.Equal(starts, x.want) || e != want {
			t.Errorf("%d: Begin = %v, error %d; want %v", i, starts, e, x.want)
		}
	}
}

func TestP4_6Closest(t *testing.T) {
	for i, x := range wastes() {
		for near := range x.f.Period/2 + 1 {
			f := x.f
			f.Near = near
			if n, e := seams.Closest(f); n != x.closest || e != api.OK {
				t.Errorf("%d: Closest = %d, error %d with the Near %d; want %d", i, n, e, near, x.closest)
			}
			if _, e := seams.Least(f); (e == api.OK) != (near >= x.closest) {
				t.Errorf("%d: Least: error %d with the Near %d", i, e, near)
			}
		}
	}
}

// sewn are times, and the number of minutes after which all is sewn.
type sewn struct {
	times []int
	want  int
}

func sewns() []sewn {
	all := []sewn{
		{[]int{5, 3, 8, 2}, 13}, {[]int{9, 1, 9, 1}, 11}, {[]int{9, 9, 1, 1}, 19}, {[]int{99, 1, 1}, 101}, {[]int{99, 99, 99}, 297},
		{[]int{1, 2, 3}, 6}, {[]int{99, 99, 99, 99}, 297}, {[]int{1, 1, 1, 99}, 101}, {[]int{1, 2, 3, 4}, 8},
		// the longest seams at once, if no two of them have a gore in common
		{[]int{99, 1, 99, 1, 99, 1}, 102}, {[]int{99, 99, 99, 1, 1, 1}, 200},
		{[]int{4, 1, 1, 1, 1, 1}, 6}, {[]int{50, 1, 1, 1, 1, 1, 1, 1}, 52}, {[]int{10, 1, 10, 1, 10, 1, 10, 1, 10}, 22},
		{[]int{1, 2, 4, 8, 16, 32, 64, 99}, 164}, {[]int{1, 99, 2, 64, 4, 32, 8, 16}, 102},
	}
	// if all take as long, every second seam can be sewn at once, and so again; at last one closes the ring
	for gores, want := range map[int]int{3: 3, 4: 3, 5: 4, 6: 4, 7: 4, 8: 4, 9: 5, 12: 5, 15: 5, 16: 5} {
		all = append(all, sewn{slices.Repeat([]int{1}, gores), want}, sewn{slices.Repeat([]int{99}, gores), 99 * want})
	}
	return all
}

func TestP4_7SoonestAndP4_8Plan(t *testing.T) {
	for _, x := range sewns() {
		n, e := seams.Soonest(sewing(x.times...))
		begins, g := seams.Plan(sewing(x.times...))
		if n != x.want || e != api.OK {
			t.Errorf("Soonest of %v = %d, error %d; want %d", x.times, n, e, x.want)
		}
		if g != api.OK || !canBeSewn(begins, x.times) || endOf(begins, x.times) != x.want {
			t.Errorf("Plan of %v = %v, error %d; want one that ends at %d", x.times, begins, g, x.want)
		}
	}
}

// Only the times matter, also without a truth.
func TestP4_7SoonestOfAnyFigure(t *testing.T) {
	for i, f := range []api.Figure{figureG(), figureH(), lost(), near(6, 1, 2, 3, 4), figure(func(f *api.Figure) { f.Dome.Gores = []int{1, 0, 1, 1}; f.Run = 0 })} {
		n, e := seams.Soonest(f)
		begins, g := seams.Plan(f)
		if n != 13 || e != api.OK || g != api.OK || !canBeSewn(begins, f.Times) || endOf(begins, f.Times) != 13 {
			t.Errorf("%d: Soonest = %d, error %d; Plan = %v, error %d", i, n, e, begins, g)
		}
	}
}

// What canBeSewn says of schedules of the ring of G is so.
func TestCanBeSewn(t *testing.T) {
	times := []int{5, 3, 8, 2}
	for _, x := range []struct {
		begins []int
		want   bool
	}{
		{[]int{0, 10, 0, 8}, true}, {[]int{3, 10, 0, 8}, true}, {[]int{0, 8, 0, 11}, true}, {[]int{0, 5, 8, 16}, true},
		// too soon by a minute, or not a minute for each seam
		{[]int{0, 9, 0, 8}, false}, {[]int{0, 10, 0, 7}, false}, {[]int{4, 10, 0, 8}, false}, {[]int{0, 4, 8, 16}, false}, {[]int{0, 5, 7, 16}, false},
		{[]int{-1, 10, 0, 8}, false}, {[]int{0, 10, 0}, false}, {nil, false},
		// seams with a gore in common, and seams that only those that ended join
		{[]int{0, 8, 5, 11}, false}, {[]int{0, 0, 20, 20}, false}, {[]int{0, 5, 30, 8}, true}, {[]int{0, 5, 30, 7}, false},
	} {
		if got := canBeSewn(x.begins, times); got != x.want {
			t.Errorf("%v: %t", x.begins, got)
		}
	}
}
