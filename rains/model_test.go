package rains_test

import (
	"math/rand/v2"
	"slices"
	"testing"

	"ferrule/api"
	"ferrule/rains"
)

// model is a tour as the chapter defines it, with all its truths and all its routes.
type model struct {
	t              api.Tour
	truths, routes [][]int
}

func newModel(t api.Tour) model {
	m := model{t: t}
	for _, levels := range walks(t.Days, 4, t.Step) {
		if len(m.wrongRains(levels)) <= t.Wrong {
			m.truths = append(m.truths, levels)
		}
	}
	m.routes = walks(t.Days, len(t.Fairs), t.Reach)
	return m
}

// walks are all lists of numbers below a base of which neighbours are near each other: the numerals of that base.
func walks(length, base, far int) [][]int {
	many := 1
	for range length {
		many *= base
	}
	var list [][]int
numerals:
	for numeral := range many {
		walk := make([]int, length)
		for i := range walk {
			walk[i] = numeral % base
			numeral /= base
		}
		for i := 1; i < length; i++ {
			if walk[i]-walk[i-1] > far || walk[i-1]-walk[i] > far {
				continue numerals
			}
		}
		list = append(list, walk)
	}
	return list
}

// wrongRains are the forecasts that are wrong with some levels.
func (m model) wrongRains(levels []int) []int {
	var list []int
	for i, r := range m.t.Rains {
		if level := levels[r.Day]; level < r.Level.Low || level > r.Level.High {
			list = append(list, i)
		}
	}
	return list
}

func (m model) fewest() int {
	least := len(m.t.Rains)
	for _, levels := range walks(m.t.Days, 4, m.t.Step) {
		least = min(least, len(m.wrongRains(levels)))
	}
	return least
}

func (m model) levels(day int) []int {
	var list []int
	for _, levels := range m.truths {
		list = append(list, levels[day])
	}
	slices.Sort(list)
	return slices.Compact(list)
}

func (m model) right(rain int) int {
	right, wrong := false, false
	for _, levels := range m.truths {
		is := slices.Contains(m.wrongRains(levels), rain)
		right, wrong = right || !is, wrong || is
	}
	switch {
	case right && wrong:
		return api.Perhaps
	case right:
		return api.Surely
	}
	return api.Never
}

// sold is what a route takes in a truth, and what is left: of all umbrellas that are asked for the first ones are sold, as many as there are.
func (m model) sold(route, levels []int) (takings, left int) {
	asked := 0 // on the days up to now
	for day, market := range route {
		f := m.t.Fairs[market]
		before := min(asked, m.t.Stock)
		asked += f.Sells[levels[day]]
		takings += f.Price * (min(asked, m.t.Stock) - before)
	}
	return takings, max(0, m.t.Stock-asked)
}

func (m model) ends(route []int) (takes, left api.Span) {
	for i, levels := range m.truths {
		money, stock := m.sold(route, levels)
		if i == 0 {
			takes, left = span(money, money), span(stock, stock)
		}
		takes = span(min(takes.Low, money), max(takes.High, money))
		left = span(min(left.Low, stock), max(left.High, stock))
	}
	return takes, left
}

// best are the greatest one of the least takings of all routes, the routes that have it, and the greatest takings of all.
func (m model) best() (best int, routes [][]int, hopes int) {
	for _, route := range m.routes {
		takes, _ := m.ends(route)
		if takes.Low > best {
			best, routes = takes.Low, nil
		}
		if takes.Low == best {
			routes = append(routes, route)
		}
		hopes = max(hopes, takes.High)
	}
	return best, routes, hopes
}

// compare holds all that is said of a tour, and of some of its routes, against the model.
func compare(t *testing.T, x api.Tour, some int) {
	t.Helper()
	m := newModel(x)
	if e := rains.Check(x); e != api.OK {
		t.Errorf("error %d", e)
	}
	wantFewest(t, x, m.fewest())
	if len(m.truths) == 0 {
		wantErrors(t, "no truth", slices.Concat(ofQuestion(x, question{route: m.routes[0]})[2:], ofTruth(x)), api.ErrNone)
		return
	}
	wantMany(t, x, len(m.truths))
	for day := range x.Days {
		wantLevels(t, x, day, m.levels(day)...)
	}
	for i := range x.Rains {
		wantRight(t, x, i, m.right(i))
	}
	for i := range some {
		route := m.routes[i*len(m.routes)/some]
		takes, left := m.ends(route)
		wantSold(t, x, route, takes, left)
	}
	best, routes, hopes := m.best()
	wantBest(t, x, best, hopes, routes...)
}

// random draws tours, always the same ones.
type random struct{ *rand.Rand }

func newRandom(seed uint64) random { return random{rand.New(rand.NewPCG(seed, 11))} }

func (x random) from(low, high int) int { return low + x.IntN(high-low+1) }

func (x random) in(s api.Span) int { return x.from(s.Low, s.High) }

// size is how many tours are drawn, of how many days, with which steps, forecasts, wrong
// forecasts and markets, how many are asked for at most, and with which stocks; and in
// how many of hundred forecasts is said what is not so.
type size struct {
	many                     int
	days, step, rains, wrong api.Span
	fairs                    api.Span
	sells                    int
	stock                    api.Span
	hundred                  int
}

func sizes() map[string]size {
	return map[string]size{
		"one day":        {600, span(1, 1), span(0, 3), span(0, 6), span(0, 3), span(1, 4), 9, span(0, 12), 30},
		"two days":       {600, span(2, 2), span(0, 3), span(0, 6), span(0, 3), span(1, 4), 9, span(0, 20), 30},
		"three days":     {600, span(3, 3), span(0, 3), span(0, 8), span(0, 2), span(1, 4), 9, span(0, 25), 25},
		"four days":      {250, span(4, 4), span(0, 3), span(2, 10), span(0, 2), span(2, 4), 9, span(0, 30), 20},
		"five days":      {80, span(5, 5), span(0, 2), span(4, 10), span(0, 2), span(2, 4), 99, span(0, 400), 20},
		"six days":       {40, span(6, 6), span(0, 2), span(6, 10), span(0, 2), span(2, 4), 99, span(0, 500), 15},
		"none wrong":     {400, span(2, 4), span(1, 3), span(1, 8), span(0, 0), span(1, 3), 20, span(0, 60), 0},
		"many wrong":     {400, span(1, 4), span(0, 3), span(6, 10), span(3, 10), span(1, 3), 20, span(0, 60), 60},
		"small stocks":   {300, span(2, 4), span(0, 3), span(0, 6), span(0, 2), span(2, 4), 99, span(0, 99), 20},
		"great stocks":   {200, span(2, 4), span(0, 3), span(0, 6), span(0, 2), span(2, 4), 99, span(300, 999), 20},
		"few are wanted": {300, span(2, 4), span(0, 3), span(0, 6), span(0, 2), span(2, 4), 2, span(0, 8), 20},
	}
}

// tour draws forecasts most of which are so with some levels.
func (x random) tour(z size) api.Tour {
	t := api.Tour{Days: x.in(z.days), Step: x.in(z.step), Wrong: x.in(z.wrong), Reach: x.from(0, 4), Stock: x.in(z.stock)}
	walk := walks(t.Days, 4, t.Step)
	levels := walk[x.IntN(len(walk))]
	for range x.in(z.rains) {
		t.Rains = append(t.Rains, x.rain(levels, z.hundred))
	}
	for range x.in(z.fairs) {
		t.Fairs = append(t.Fairs, x.fair(z.sells))
	}
	return t
}

func (x random) rain(levels []int, hundred int) api.Rain {
	wrong := x.IntN(100) < hundred
	for {
		low := x.from(0, 3)
		r := rain(x.IntN(len(levels)), low, min(3, low+x.IntN(3)))
		if level := levels[r.Day]; wrong || r.Level.Low <= level && level <= r.Level.High {
			return r
		}
	}
}

// fair draws a market at which more, or less, or anything is asked for with more rain.
func (x random) fair(sells int) api.Fair {
	f := fair(x.from(0, 30), x.IntN(sells+1), x.IntN(sells+1), x.IntN(sells+1), x.IntN(sells+1))
	switch x.IntN(4) {
	case 0:
		slices.Sort(f.Sells)
	case 1:
		slices.Sort(f.Sells)
		slices.Reverse(f.Sells)
	}
	return f
}

func TestModel(t *testing.T) {
	for name, z := range sizes() {
		t.Run(name, func(t *testing.T) {
			x := newRandom(1)
			for range z.many {
				tour := x.tour(z)
				compare(t, tour, 30)
				if t.Failed() {
					t.Fatalf("%+v", tour)
				}
			}
		})
	}
}

// Tours with thousands of truths and of routes.
func TestModelOfLargeTours(t *testing.T) {
	x := newRandom(2)
	for i := range 5 {
		tour := x.tour(size{1, span(6, 6), span(3, 3), span(i, 2*i), span(i/2, i/2), span(4, 4), 99, span(100, 500), 20})
		tour.Reach = 3 + i%2
		for k := range tour.Fairs {
			tour.Fairs[k].Price = x.from(500, 999)
		}
		if many, e := rains.Many(tour); many < 300 || e != api.OK {
			t.Errorf("%d truths, error %d", many, e)
		}
		compare(t, tour, 100)
		if t.Failed() {
			t.Fatalf("%+v", tour)
		}
	}
}

// count counts what is so.
func count(met map[string]int, all map[string]bool) {
	for name, is := range all {
		if is {
			met[name]++
		}
	}
}

// wantMet wants that each of these was met a number of times at the least.
func wantMet(t *testing.T, met map[string]int, least int, names ...string) {
	t.Helper()
	for _, name := range names {
		if met[name] < least {
			t.Errorf("%s: %d", name, met[name])
		}
	}
}

// The tours that are drawn have all that can be in them.
func TestModelMeetsAll(t *testing.T) {
	met := map[string]int{}
	for name, z := range sizes() {
		x := newRandom(1)
		for range min(z.many, 250) {
			m := newModel(x.tour(z))
			many := len(m.truths)
			count(met, map[string]bool{"no truth": many == 0, "one truth": many == 1, "many truths": many > 50})
			if many > 0 && name != "six days" {
				meetRains(met, m)
				meetRoutes(met, m)
			}
		}
	}
	wantMet(t, met, 20,
		"no truth", "one truth", "many truths", "a right forecast", "a wrong forecast", "perhaps", "as many wrong as can be", "fewer wrong than can be", "one level", "levels with a gap",
		"nothing is taken", "sold out, perhaps", "surely sold out", "never sold out", "one route", "one route is best", "several routes are best", "the best route moves", "the first route is not best",
		"the hopes are greater", "no best route has the hopes", "less is taken with more sold", "more rain is better", "less rain is better",
	)
}

func meetRains(met map[string]int, m model) {
	most := 0 // wrong ones in a truth
	for _, levels := range m.truths {
		most = max(most, len(m.wrongRains(levels)))
	}
	for i := range m.t.Rains {
		right := m.right(i)
		count(met, map[string]bool{"a right forecast": right == api.Surely, "a wrong forecast": right == api.Never, "perhaps": right == api.Perhaps})
	}
	count(met, map[string]bool{"as many wrong as can be": most > 1 && most == m.t.Wrong, "fewer wrong than can be": m.fewest() < most})
	for day := range m.t.Days {
		l := m.levels(day)
		count(met, map[string]bool{"one level": len(l) == 1, "levels with a gap": l[len(l)-1]-l[0] >= len(l)})
	}
}

func meetRoutes(met map[string]int, m model) {
	best, routes, hopes := m.best()
	hoped := false
	for _, route := range routes {
		takes, _ := m.ends(route)
		hoped = hoped || takes.High == hopes
	}
	moves := func(route []int) bool { return len(slices.Compact(slices.Clone(route))) > 1 }
	count(met, map[string]bool{
		"one route": len(m.routes) == 1, "one route is best": len(routes) == 1 && len(m.routes) > 5, "several routes are best": len(routes) > 1,
		"the best route moves": !slices.ContainsFunc(routes, func(route []int) bool { return !moves(route) }), "the first route is not best": !slices.Equal(routes[0], m.routes[0]),
		"the hopes are greater": hopes > best, "no best route has the hopes": !hoped,
	})
	for i := range 10 {
		meetSales(met, m, m.routes[i*len(m.routes)/10])
	}
}

func meetSales(met map[string]int, m model, route []int) {
	takes, left := m.ends(route)
	odd, more, less := false, false, false
	for i, levels := range m.truths {
		money, stock := m.sold(route, levels)
		first, rest := m.sold(route, m.truths[0])
		odd = odd || money < first && stock < rest
		if i > 0 && levels[0] > m.truths[0][0] && slices.Equal(levels[1:], m.truths[0][1:]) {
			more, less = more || money > first, less || money < first
		}
	}
	count(met, map[string]bool{
		"nothing is taken": takes.High == 0, "sold out, perhaps": left.Low == 0 && left.High > 0, "surely sold out": left.High == 0, "never sold out": left.Low > 0,
		"less is taken with more sold": odd, "more rain is better": more, "less rain is better": less,
	})
}
