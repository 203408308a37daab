package rains_test

import (
	"slices"
	"testing"

	"ferrule/api"
	"ferrule/rains"
)

// tourT and tourU are T and U of the chapter's examples.
func tourT() api.Tour {
	return api.Tour{
		Days: 3, Step: 2, Rains: []api.Rain{rain(0, 2, 3), rain(1, 0, 1), rain(2, 0, 0), rain(2, 3, 3)}, Wrong: 1,
		Fairs: []api.Fair{fair(10, 0, 2, 4, 6), fair(20, 0, 1, 2, 3), fair(5, 6, 6, 6, 6)}, Reach: 1, Stock: 7,
	}
}

func tourU() api.Tour {
	t := tourT()
	t.Wrong = 0
	return t
}

// forecast is a tour of some days to one market, with forecasts none of which is wrong.
func forecast(days, step int, list ...api.Rain) api.Tour {
	return api.Tour{Days: days, Step: step, Rains: list, Fairs: []api.Fair{fair(1, 0, 1, 2, 3)}}
}

// wrong is a tour with more forecasts, so many of which may be wrong.
func wrong(many int, t api.Tour, more ...api.Rain) api.Tour {
	t.Rains, t.Wrong = slices.Concat(t.Rains, more), many
	return t
}

func TestExamples(t *testing.T) {
	wantFewest(t, tourT(), 1)
	wantFewest(t, tourU(), 1)
	wantMany(t, tourT(), 5)
	wantErrors(t, "U", slices.Concat(ofTruth(tourU()), ofQuestion(tourU(), question{0, 0, []int{0, 0, 0}})), api.ErrNone)
	wantLevels(t, tourT(), 0, 2, 3)
	wantLevels(t, tourT(), 1, 0, 1)
	wantLevels(t, tourT(), 2, 0, 3)
	wantRight(t, tourT(), 0, api.Surely)
	wantRight(t, tourT(), 2, api.Perhaps)
	wantSold(t, tourT(), []int{0, 0, 0}, span(40, 70), span(0, 3))
	wantSold(t, tourT(), []int{1, 1, 1}, span(40, 140), span(0, 5))
	wantSold(t, tourT(), []int{1, 1, 2}, span(65, 95), span(0, 0))
	wantBest(t, tourT(), 65, 140, []int{1, 1, 2}, []int{1, 2, 1}, []int{1, 2, 2})
}

func wantFewest(t *testing.T, x api.Tour, want int) {
	t.Helper()
	if n, e := rains.Fewest(x); n != want || e != api.OK {
		t.Errorf("%+v: Fewest = %d, error %d; want %d", x, n, e, want)
	}
}

func wantMany(t *testing.T, x api.Tour, want int) {
	t.Helper()
	if n, e := rains.Many(x); n != want || e != api.OK {
		t.Errorf("%+v: Many = %d, error %d; want %d", x, n, e, want)
	}
}

func wantLevels(t *testing.T, x api.Tour, day int, want ...int) {
	t.Helper()
	if l, e := rains.Levels(x, day); !slices.Equal(l, want) || e != api.OK {
		t.Errorf("%+v: Levels of %d = %v, error %d; want %v", x, day, l, e, want)
	}
}

func wantRight(t *testing.T, x api.Tour, rain, want int) {
	t.Helper()
	if n, e := rains.Right(x, rain); n != want || e != api.OK {
		t.Errorf("%+v: Right of %d = %d, error %d; want %d", x, rain, n, e, want)
	}
}

// wantSold wants what a route takes and what is left.
func wantSold(t *testing.T, x api.Tour, route []int, takes, left api.Span) {
	t.Helper()
	if s, e := rains.Takes(x, route); s != takes || e != api.OK {
		t.Errorf("%+v: Takes of %v = %v, error %d; want %v", x, route, s, e, takes)
	}
	if s, e := rains.Left(x, route); s != left || e != api.OK {
		t.Errorf("%+v: Left of %v = %v, error %d; want %v", x, route, s, e, left)
	}
}

// wantBest wants what a trader can be sure of and can hope for, and that Route is one of some routes.
func wantBest(t *testing.T, x api.Tour, best, hopes int, routes ...[]int) {
	t.Helper()
	if n, e := rains.Best(x); n != best || e != api.OK {
		t.Errorf("%+v: Best = %d, error %d; want %d", x, n, e, best)
	}
	if n, e := rains.Hopes(x); n != hopes || e != api.OK {
		t.Errorf("%+v: Hopes = %d, error %d; want %d", x, n, e, hopes)
	}
	route, e := rains.Route(x)
	if e != api.OK || !slices.ContainsFunc(routes, func(r []int) bool { return slices.Equal(r, route) }) {
		t.Errorf("%+v: Route = %v, error %d; want one of %v", x, route, e, routes)
	}
}

func TestP11_2Fewest(t *testing.T) {
	wantFewest(t, forecast(1, 0), 0)
	wantFewest(t, forecast(6, 3), 0)
	wantFewest(t, forecast(2, 3, rain(0, 0, 0), rain(1, 3, 3)), 0)
	wantFewest(t, forecast(2, 2, rain(0, 0, 0), rain(1, 3, 3)), 1)
	wantFewest(t, forecast(3, 1, rain(0, 0, 0), rain(2, 3, 3)), 1)
	wantFewest(t, forecast(4, 1, rain(0, 0, 0), rain(3, 3, 3)), 0)
	wantFewest(t, forecast(4, 0, rain(0, 0, 0), rain(1, 0, 2), rain(2, 2, 3), rain(3, 2, 3)), 1)
	wantFewest(t, forecast(4, 0, rain(0, 0, 0), rain(1, 0, 1), rain(2, 2, 3), rain(3, 2, 3)), 2)
	// equal ones are counted each for itself
	wantFewest(t, forecast(1, 3, rain(0, 0, 0), rain(0, 0, 0), rain(0, 1, 3)), 1)
	wantFewest(t, forecast(1, 3, rain(0, 0, 0), rain(0, 0, 0), rain(0, 1, 3), rain(0, 2, 2), rain(0, 3, 3)), 3)
	four := []api.Rain{rain(0, 0, 0), rain(0, 1, 1), rain(0, 2, 2), rain(0, 3, 3)}
	wantFewest(t, forecast(1, 3, slices.Concat(four, four)...), 6)
	for many := range 11 { // Wrong does not matter
		wantFewest(t, wrong(many, tourT()), 1)
		wantFewest(t, wrong(many, forecast(1, 3, four...)), 3)
	}
}

func TestP11_3Many(t *testing.T) {
	for step, many := range [][]int{{4, 4, 4, 4, 4, 4}, {4, 10, 26, 68, 178, 466}, {4, 14, 50, 178, 634, 2258}, {4, 16, 64, 256, 1024, 4096}} {
		for before, n := range many {
			wantMany(t, forecast(before+1, step), n)
		}
	}
	wantMany(t, forecast(3, 3, rain(1, 1, 2)), 32)
	wantMany(t, forecast(3, 1, rain(1, 1, 2)), 18)
	wantMany(t, forecast(3, 1, rain(1, 0, 0)), 4)
	wantMany(t, forecast(2, 0, rain(0, 1, 3), rain(1, 0, 1)), 1)
	wantMany(t, forecast(2, 3, rain(0, 1, 3), rain(0, 0, 1)), 4)
	wantMany(t, wrong(1, forecast(2, 3, rain(0, 1, 3), rain(0, 0, 1))), 16)
	wantMany(t, wrong(1, forecast(1, 3, rain(0, 3, 3), rain(0, 0, 1), rain(0, 0, 2))), 2)
	wantMany(t, wrong(2, forecast(1, 3, rain(0, 3, 3), rain(0, 0, 1), rain(0, 0, 2))), 4)
	wantMany(t, wrong(10, forecast(6, 3, slices.Repeat([]api.Rain{rain(5, 2, 2)}, 10)...)), 4096)
	wantMany(t, wrong(9, forecast(6, 3, slices.Repeat([]api.Rain{rain(5, 2, 2)}, 10)...)), 1024)
}

func TestP11_4Levels(t *testing.T) {
	for days := 1; days <= 6; days++ {
		for step := range 4 {
			for day := range days {
				wantLevels(t, forecast(days, step), day, 0, 1, 2, 3)
			}
		}
	}
	// a forecast says something of the days around it
	for day, levels := range [][]int{{1, 2, 3}, {2, 3}, {3}, {2, 3}, {1, 2, 3}, {0, 1, 2, 3}} {
		wantLevels(t, forecast(6, 1, rain(2, 3, 3)), day, levels...)
		wantLevels(t, forecast(6, 0, rain(2, 3, 3)), day, 3)
	}
	for day, levels := range [][]int{{0}, {0, 1, 2}, {0, 1, 2, 3}, {1, 2, 3}, {3}} {
		wantLevels(t, forecast(5, 2, rain(0, 0, 0), rain(4, 3, 3)), day, levels...)
	}
	wantLevels(t, wrong(1, forecast(2, 3, rain(1, 0, 0), rain(1, 2, 2))), 1, 0, 2)
	wantLevels(t, wrong(1, forecast(2, 0, rain(1, 0, 0), rain(1, 2, 2))), 0, 0, 2)
	wantLevels(t, wrong(1, forecast(2, 1, rain(1, 0, 0), rain(1, 3, 3))), 0, 0, 1, 2, 3)
	wantLevels(t, wrong(1, forecast(1, 0, rain(0, 0, 1), rain(0, 0, 1), rain(0, 1, 3))), 0, 0, 1)
}

func TestP11_5Right(t *testing.T) {
	// a forecast of all levels is always right
	wantRight(t, wrong(1, forecast(2, 3, rain(0, 0, 3))), 0, api.Surely)
	wantRight(t, forecast(2, 3, rain(0, 1, 1)), 0, api.Surely)
	wantRight(t, wrong(1, forecast(2, 3, rain(0, 1, 1))), 0, api.Perhaps)
	x := wrong(2, forecast(2, 3, rain(1, 0, 0), rain(1, 0, 1), rain(1, 0, 1), rain(1, 2, 3)))
	for i, right := range []int{api.Perhaps, api.Surely, api.Surely, api.Never} {
		wantRight(t, x, i, right)
	}
	x.Wrong = 3
	for i := range 4 {
		wantRight(t, x, i, api.Perhaps)
	}
	x = tourT()
	x.Step = 1 // 2 1 0 alone
	for i, right := range []int{api.Surely, api.Surely, api.Surely, api.Never} {
		wantRight(t, x, i, right)
	}
	x.Wrong = 2
	for i := range 4 {
		wantRight(t, x, i, api.Perhaps)
	}
	wantRight(t, forecast(2, 0, slices.Repeat([]api.Rain{rain(1, 3, 3)}, 10)...), 9, api.Surely)
}

// known is a tour with one truth, of these levels.
func known(stock int, levels []int, fairs ...api.Fair) api.Tour {
	t := api.Tour{Days: len(levels), Step: 3, Fairs: fairs, Reach: 4, Stock: stock}
	for day, level := range levels {
		t.Rains = append(t.Rains, rain(day, level, level))
	}
	return t
}

func TestP11_6Takes(t *testing.T) {
	a, b, c := fair(10, 5, 6, 7, 8), fair(100, 0, 0, 0, 3), fair(1, 99, 99, 99, 99)
	for _, x := range []struct {
		stock         int
		levels, route []int
		takes, left   int
	}{
		{999, []int{0, 1, 2, 3}, []int{0, 0, 0, 0}, 260, 973}, {26, []int{0, 1, 2, 3}, []int{0, 0, 0, 0}, 260, 0}, {25, []int{0, 1, 2, 3}, []int{0, 0, 0, 0}, 250, 0}, {27, []int{0, 1, 2, 3}, []int{0, 0, 0, 0}, 260, 1},
		{0, []int{3, 3}, []int{0, 1}, 0, 0}, {9, []int{3, 3}, []int{0, 1}, 180, 0}, {9, []int{3, 3}, []int{1, 0}, 360, 0}, {9, []int{2, 3}, []int{1, 0}, 80, 1}, {9, []int{2, 3}, []int{0, 1}, 270, 0},
		{100, []int{0, 0, 3}, []int{2, 2, 1}, 100, 0}, {198, []int{0, 0, 3}, []int{2, 2, 1}, 198, 0}, {200, []int{0, 0, 3}, []int{2, 2, 1}, 398, 0}, {202, []int{0, 0, 3}, []int{2, 2, 1}, 498, 1},
	} {
		wantSold(t, known(x.stock, x.levels, a, b, c), x.route, span(x.takes, x.takes), span(x.left, x.left))
	}
	// more that is sold early leaves less for what brings more
	x := forecast(2, 3, rain(1, 1, 1))
	x.Fairs, x.Stock, x.Reach = []api.Fair{fair(1, 0, 2, 5, 9), fair(50, 9, 9, 9, 9)}, 10, 1
	wantSold(t, x, []int{0, 1}, span(9+50, 9*50), span(0, 1))
	wantSold(t, x, []int{0, 0}, span(2, 10), span(0, 8))
	wantSold(t, x, []int{1, 0}, span(451, 451), span(0, 0))
	wantSold(t, most(), []int{0, 1, 2, 3, 0, 3}, span(594*999, 594*999), span(405, 405))
	wantSold(t, least(), []int{0}, span(0, 0), span(0, 0))
}

// The ends are those of truths, not of levels that two days cannot have together.
func TestP11_6TogetherOnly(t *testing.T) {
	x := forecast(2, 0)
	x.Fairs, x.Stock, x.Reach = []api.Fair{fair(1, 9, 5, 2, 0), fair(1, 0, 2, 5, 9)}, 99, 1
	wantSold(t, x, []int{0, 1}, span(7, 9), span(90, 92))
	x.Step = 1
	wantSold(t, x, []int{0, 1}, span(4, 11), span(88, 95))
	x.Step = 3
	wantSold(t, x, []int{0, 1}, span(0, 18), span(81, 99))
	x = wrong(1, x, rain(0, 0, 0), rain(1, 3, 3))
	wantSold(t, x, []int{0, 1}, span(9, 18), span(81, 90))
}

func TestP11_7Left(t *testing.T) {
	x := forecast(3, 3)
	for stock, left := range []api.Span{span(0, 0), span(0, 1), span(0, 2), span(0, 3), span(0, 4), span(0, 5), span(0, 6), span(0, 7), span(0, 8), span(0, 9), span(1, 10)} {
		x.Stock = stock
		wantSold(t, x, []int{0, 0, 0}, span(0, min(9, stock)), left)
	}
	x = wrong(0, x, rain(0, 1, 2), rain(1, 3, 3))
	wantSold(t, x, []int{0, 0, 0}, span(4, 8), span(2, 6))
	x.Fairs[0].Price = 0 // what is given away is gone too
	wantSold(t, x, []int{0, 0, 0}, span(0, 0), span(2, 6))
}

func TestP11_8Best(t *testing.T) {
	// the weather takes the worse one of two markets, whichever it is
	x := forecast(1, 3)
	x.Fairs, x.Stock = []api.Fair{fair(10, 0, 5, 5, 9), fair(10, 9, 5, 5, 0)}, 99
	wantBest(t, x, 0, 90, []int{0}, []int{1})
	x.Rains = []api.Rain{rain(0, 1, 3)}
	wantBest(t, x, 50, 90, []int{0})
	x.Fairs = append(x.Fairs, fair(7, 8, 8, 8, 8))
	wantBest(t, x, 56, 90, []int{2})
	// it is the same weather for a whole tour
	x = forecast(2, 0)
	x.Fairs, x.Stock, x.Reach = []api.Fair{fair(10, 0, 5, 5, 9), fair(10, 9, 5, 5, 0)}, 99, 1
	wantBest(t, x, 90, 180, []int{0, 1}, []int{1, 0})
	x.Step = 1
	wantBest(t, x, 50, 180, []int{0, 1}, []int{1, 0})
	x.Reach = 0
	wantBest(t, x, 0, 180, []int{0, 0}, []int{1, 1})
	// where nothing is surely sold all routes are best
	x = forecast(2, 3)
	x.Fairs, x.Stock = []api.Fair{fair(3, 0, 5, 5, 5), fair(2, 0, 9, 9, 9)}, 10
	wantBest(t, x, 0, 30, []int{0, 0}, []int{1, 1})
	x.Stock = 0
	wantBest(t, x, 0, 0, []int{0, 0}, []int{1, 1})
}

// The weather of the days to come is not known to the trader.
func TestP11_8SetBefore(t *testing.T) {
	x := forecast(2, 0)
	x.Fairs, x.Stock, x.Reach = []api.Fair{fair(10, 1, 0, 0, 0), fair(10, 0, 1, 0, 0), fair(10, 0, 0, 1, 0), fair(10, 0, 0, 0, 1)}, 99, 4
	x.Rains = []api.Rain{rain(0, 0, 1)}
	wantBest(t, x, 10, 20, []int{0, 1}, []int{1, 0})
	x.Rains = []api.Rain{rain(0, 1, 3)} // two of three levels can be met, not all
	best, e := rains.Best(x)
	if best != 0 || e != api.OK {
		t.Errorf("Best = %d, error %d", best, e)
	}
	wantHopes(t, x, 20)
}

func wantHopes(t *testing.T, x api.Tour, want int) {
	t.Helper()
	if n, e := rains.Hopes(x); n != want || e != api.OK {
		t.Errorf("%+v: Hopes = %d, error %d; want %d", x, n, e, want)
	}
}

func TestP11_9Route(t *testing.T) {
	// the dear market first, then the one that takes the rest, as far as it is within the reach
	dear, cheap, poor := fair(50, 3, 3, 3, 3), fair(2, 9, 9, 9, 9), fair(1, 1, 1, 1, 1)
	x := api.Tour{Days: 2, Step: 3, Fairs: []api.Fair{dear, poor, cheap}, Reach: 2, Stock: 6}
	wantBest(t, x, 300, 300, []int{0, 0})
	x.Fairs[0].Sells = []int{3, 0, 0, 0}
	x.Rains = []api.Rain{rain(0, 0, 0), rain(1, 1, 3)}
	wantBest(t, x, 156, 156, []int{0, 2})
	x.Reach = 1
	wantBest(t, x, 151, 151, []int{0, 1})
	x.Reach = 0
	wantBest(t, x, 150, 150, []int{0, 0})
	x.Rains = []api.Rain{rain(1, 0, 0), rain(0, 1, 3)} // the cheap one would leave none for the dear one
	wantBest(t, x, 150, 150, []int{0, 0})
	x.Reach = 1
	wantBest(t, x, 151, 151, []int{1, 0})
	x.Reach = 4
	wantBest(t, x, 151, 151, []int{1, 0})
	x.Stock = 10
	wantBest(t, x, 151, 151, []int{1, 0})
	x.Stock = 12
	wantBest(t, x, 168, 168, []int{2, 0})
	for days := 1; days <= 6; days++ {
		route := make([]int, days)
		wantBest(t, forecast(days, 3), 0, 0, route)
	}
	wantBest(t, least(), 0, 0, []int{0})
}

func TestP11_10Hopes(t *testing.T) {
	if n, e := rains.Hopes(most()); n != 594*999 || e != api.OK {
		t.Errorf("Hopes = %d, error %d", n, e)
	}
	// of routes that are not sure, and of truths in which a forecast is wrong
	x := forecast(2, 3)
	x.Fairs, x.Stock, x.Reach = []api.Fair{fair(10, 3, 3, 3, 3), fair(40, 0, 0, 0, 9)}, 8, 1
	wantBest(t, x, 60, 320, []int{0, 0})
	x = wrong(0, x, rain(0, 0, 2), rain(1, 0, 2))
	wantBest(t, x, 60, 60, []int{0, 0})
	wantBest(t, wrong(1, x), 60, 320, []int{0, 0})
	x = wrong(0, x, rain(0, 3, 3))
	wantBest(t, wrong(1, x), 60, 320, []int{0, 0})
	// only one of two days can be wet
	x = wrong(1, forecast(2, 3), rain(0, 0, 2), rain(1, 0, 2))
	x.Fairs, x.Stock, x.Reach = []api.Fair{fair(10, 3, 3, 3, 3), fair(40, 0, 0, 0, 4)}, 8, 1
	wantBest(t, x, 60, 160+30, []int{0, 0})
}
