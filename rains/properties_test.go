package rains_test

import (
	"slices"
	"testing"

	"ferrule/api"
	"ferrule/rains"
)

// drawn are tours of all sizes, with a truth.
func drawn(seed uint64, many int) []api.Tour {
	x := newRandom(seed)
	list := []api.Tour{tourT(), laden(), least(), forecast(4, 3)}
	for range many {
		for _, name := range []string{"one day", "two days", "three days", "four days", "five days", "none wrong", "many wrong", "small stocks", "great stocks", "few are wanted"} {
			t := x.tour(sizes()[name])
			if isOpen(t) {
				list = append(list, t)
			}
		}
	}
	return list
}

// isOpen tells whether a tour has a truth.
func isOpen(t api.Tour) bool {
	_, e := rains.Many(t)
	return e == api.OK
}

// takesOf, leftOf, bestOf, hopesOf, levelsOf and rightOf are answers to what is valid and has a truth.
func takesOf(t *testing.T, x api.Tour, route []int) api.Span {
	t.Helper()
	s, e := rains.Takes(x, route)
	if e != api.OK {
		t.Errorf("%+v: Takes of %v: error %d", x, route, e)
	}
	return s
}

func leftOf(t *testing.T, x api.Tour, route []int) api.Span {
	t.Helper()
	s, e := rains.Left(x, route)
	if e != api.OK {
		t.Errorf("%+v: Left of %v: error %d", x, route, e)
	}
	return s
}

func bestOf(t *testing.T, x api.Tour) int {
	t.Helper()
	n, e := rains.Best(x)
	if e != api.OK {
		t.Errorf("%+v: Best: error %d", x, e)
	}
	return n
}

func hopesOf(t *testing.T, x api.Tour) int {
	t.Helper()
	n, e := rains.Hopes(x)
	if e != api.OK {
		t.Errorf("%+v: Hopes: error %d", x, e)
	}
	return n
}

func levelsOf(t *testing.T, x api.Tour, day int) []int {
	t.Helper()
	l, e := rains.Levels(x, day)
	if e != api.OK {
		t.Errorf("%+v: Levels of %d: error %d", x, day, e)
	}
	return l
}

func rightOf(t *testing.T, x api.Tour, rain int) int {
	t.Helper()
	n, e := rains.Right(x, rain)
	if e != api.OK {
		t.Errorf("%+v: Right of %d: error %d", x, rain, e)
	}
	return n
}

// some are routes of a tour, up to so many.
func some(x api.Tour, many int) [][]int {
	routes := walks(x.Days, len(x.Fairs), x.Reach)
	var list [][]int
	for i := range min(many, len(routes)) {
		list = append(list, routes[i*len(routes)/min(many, len(routes))])
	}
	return list
}

func within(n int, s api.Span) bool { return s.Low <= n && n <= s.High }

// isIn tells whether all of a span is in another one.
func isIn(a, b api.Span) bool { return b.Low <= a.Low && a.High <= b.High }

func TestP11_11EachTruth(t *testing.T) {
	met := map[string]int{}
	for _, x := range drawn(11, 30) {
		m := newModel(x)
		for day := range x.Days {
			l := levelsOf(t, x, day)
			for _, levels := range m.truths {
				if !slices.Contains(l, levels[day]) {
					t.Errorf("%+v: Levels of %d = %v, but it can be %v", x, day, l, levels)
				}
			}
		}
		for i := range x.Rains {
			right := rightOf(t, x, i)
			for _, levels := range m.truths {
				wrong := slices.Contains(m.wrongRains(levels), i)
				if right == api.Surely && wrong || right == api.Never && !wrong {
					t.Errorf("%+v: Right of %d = %d, but it can be %v", x, i, right, levels)
				}
			}
			count(met, map[string]bool{"surely": right == api.Surely, "never": right == api.Never})
		}
		for _, route := range some(x, 20) {
			takes, left := takesOf(t, x, route), leftOf(t, x, route)
			for _, levels := range m.truths {
				if money, stock := m.sold(route, levels); !within(money, takes) || !within(stock, left) {
					t.Errorf("%+v: Takes of %v = %v, Left = %v, but with %v it takes %d, and %d are left", x, route, takes, left, levels, money, stock)
				}
			}
			count(met, map[string]bool{"takes more or less": takes.Low < takes.High, "more or less is left": left.Low < left.High})
		}
	}
	wantMet(t, met, 20, "surely", "never", "takes more or less", "more or less is left")
}

func TestP11_12TheBest(t *testing.T) {
	met := map[string]int{}
	for _, x := range drawn(12, 30) {
		best, hopes := bestOf(t, x), hopesOf(t, x)
		route, e := rains.Route(x)
		if e != api.OK || takesOf(t, x, route).Low != best {
			t.Errorf("%+v: Route = %v, error %d; Takes = %v, Best = %d", x, route, e, takesOf(t, x, route), best)
		}
		for _, route := range some(x, 256) {
			takes := takesOf(t, x, route)
			if takes.Low > best || takes.High > hopes {
				t.Errorf("%+v: Takes of %v = %v, Best = %d, Hopes = %d", x, route, takes, best, hopes)
			}
			count(met, map[string]bool{"less than Best": takes.Low < best, "Best": takes.Low == best, "less than Hopes": takes.High < hopes, "Hopes": takes.High == hopes})
		}
	}
	wantMet(t, met, 20, "less than Best", "Best", "less than Hopes", "Hopes")
}

func TestP11_13OneForecastMore(t *testing.T) {
	x := newRandom(13)
	met := map[string]int{}
	for _, was := range drawn(13, 40) {
		if len(was.Rains) == api.MaxRains {
			continue
		}
		is := wrong(was.Wrong, was, x.rain(make([]int, was.Days), 100))
		x.Shuffle(len(is.Rains), func(i, k int) { is.Rains[i], is.Rains[k] = is.Rains[k], is.Rains[i] })
		if !isOpen(is) {
			count(met, map[string]bool{"no truth": true})
			continue
		}
		for day := range is.Days {
			before, after := levelsOf(t, was, day), levelsOf(t, is, day)
			if slices.ContainsFunc(after, func(level int) bool { return !slices.Contains(before, level) }) {
				t.Errorf("%+v: Levels of %d = %v; %+v: %v", was, day, before, is, after)
			}
			count(met, map[string]bool{"fewer levels": len(after) < len(before)})
		}
		for _, route := range some(is, 20) {
			takes, left := takesOf(t, is, route), leftOf(t, is, route)
			if !isIn(takes, takesOf(t, was, route)) || !isIn(left, leftOf(t, was, route)) {
				t.Errorf("%+v: Takes of %v = %v, Left = %v; %+v: %v, %v", was, route, takesOf(t, was, route), leftOf(t, was, route), is, takes, left)
			}
			count(met, map[string]bool{"narrower": takes != takesOf(t, was, route), "less or more left": left != leftOf(t, was, route)})
		}
		before, after := bestOf(t, was), bestOf(t, is)
		if after < before {
			t.Errorf("%+v: Best = %d; %+v: %d", was, before, is, after)
		}
		count(met, map[string]bool{"better": after > before})
	}
	wantMet(t, met, 20, "no truth", "fewer levels", "narrower", "less or more left", "better")
}

func TestP11_13MoreWrong(t *testing.T) {
	met := map[string]int{}
	for _, x := range drawn(14, 60) {
		best := bestOf(t, x)
		for wrong := x.Wrong; wrong <= api.MaxRains; wrong++ {
			y := x
			y.Wrong = wrong
			if n := bestOf(t, y); n > best {
				t.Errorf("%+v: Best = %d; with a Wrong of %d: %d", x, best, wrong, n)
			} else {
				count(met, map[string]bool{"less with more wrong": n < best})
			}
		}
		for step := x.Step; step <= api.MaxRain; step++ {
			y := x
			y.Step = step
			if n := bestOf(t, y); n > best {
				t.Errorf("%+v: Best = %d; with a Step of %d: %d", x, best, step, n)
			} else {
				count(met, map[string]bool{"less with a greater step": n < best})
			}
		}
	}
	wantMet(t, met, 20, "less with more wrong", "less with a greater step")
}

func TestP11_14MoreStock(t *testing.T) {
	x := newRandom(14)
	met := map[string]int{}
	for _, was := range drawn(15, 40) {
		is := was
		is.Stock = min(api.MaxStock, was.Stock+x.from(1, 20))
		wantMore(t, met, "stock", was, is)
		for _, route := range some(was, 20) {
			before, after := takesOf(t, was, route), takesOf(t, is, route)
			if after.Low < before.Low || after.High < before.High {
				t.Errorf("%+v: Takes of %v = %v; %+v: %v", was, route, before, is, after)
			}
			count(met, map[string]bool{"at the low end": after.Low > before.Low, "at the high end": after.High > before.High})
		}
		is = was
		for is.Reach < api.MaxFairs {
			is.Reach++
			wantMore(t, met, "reach", was, is)
		}
	}
	wantMet(t, met, 20, "better for the stock", "more hopes for the stock", "better for the reach", "more hopes for the reach", "at the low end", "at the high end")
}

// wantMore wants that nothing of what a trader can be sure of, or hope for, is less.
func wantMore(t *testing.T, met map[string]int, what string, was, is api.Tour) {
	t.Helper()
	best, hopes := bestOf(t, was), hopesOf(t, was)
	better, more := bestOf(t, is), hopesOf(t, is)
	if better < best || more < hopes {
		t.Errorf("%+v: Best = %d, Hopes = %d; %+v: %d, %d", was, best, hopes, is, better, more)
	}
	count(met, map[string]bool{"better for the " + what: better > best, "more hopes for the " + what: more > hopes})
}

func TestP11_15NoneIsLost(t *testing.T) {
	met := map[string]int{}
	for _, x := range drawn(16, 40) {
		x = copied(x)
		for i := range x.Fairs {
			x.Fairs[i].Price = 1
		}
		for _, route := range some(x, 30) {
			takes, left := takesOf(t, x, route), leftOf(t, x, route)
			if takes.Low+left.High != x.Stock || takes.High+left.Low != x.Stock {
				t.Errorf("%+v: Takes of %v = %v, Left = %v", x, route, takes, left)
			}
			count(met, map[string]bool{"more or less": takes.Low < takes.High && left.Low > 0, "sold out": left.Low == 0 && left.High > 0})
		}
	}
	wantMet(t, met, 20, "more or less", "sold out")
}

func TestP11_16TheLiars(t *testing.T) {
	x := newRandom(16)
	met := map[string]int{}
	for _, z := range sizes() {
		for range min(z.many, 60) {
			tour := x.tour(z)
			fewest, e := rains.Fewest(tour)
			if e != api.OK {
				t.Errorf("%+v: Fewest: error %d", tour, e)
			}
			for wrong := range 11 {
				tour.Wrong = wrong
				many, e := rains.Many(tour)
				if (e == api.OK) != (fewest <= wrong) || (many > 0) != (fewest <= wrong) || e != api.OK && e != api.ErrNone {
					t.Errorf("%+v: Fewest = %d; Many = %d, error %d", tour, fewest, many, e)
				}
			}
			count(met, map[string]bool{"none is wrong": fewest == 0, "one is wrong": fewest == 1, "some are wrong": fewest > 1})
		}
	}
	wantMet(t, met, 20, "none is wrong", "one is wrong", "some are wrong")
}

func TestP11_16Order(t *testing.T) {
	x := newRandom(17)
	met := map[string]int{}
	for _, was := range drawn(17, 30) {
		order, is := x.Perm(len(was.Rains)), copied(was)
		for i, k := range order {
			is.Rains[i] = was.Rains[k]
		}
		for i, k := range order {
			if a, b := rightOf(t, was, k), rightOf(t, is, i); a != b {
				t.Errorf("%+v: Right of %d = %d; %+v: of %d %d", was, k, a, is, i, b)
			}
		}
		q := question{was.Days - 1, 0, some(was, 2)[0]}
		before, after := slices.Concat(ofTour(was), ofTruth(was), ofQuestion(was, q)), slices.Concat(ofTour(is), ofTruth(is), ofQuestion(is, q))
		for i, a := range before {
			if b := after[i]; a.name != "Right" && a.name != "Route" && !same(a, b) {
				t.Errorf("%+v: %s = %v, error %d; %+v: %v, error %d", was, a.name, a.value, a.e, is, b.value, b.e)
			}
		}
		route, e := rains.Route(is)
		if e != api.OK || takesOf(t, was, route).Low != bestOf(t, was) {
			t.Errorf("%+v: Route = %v, error %d; %+v: Best = %d", is, route, e, was, bestOf(t, was))
		}
		count(met, map[string]bool{"another order": !slices.IsSorted(order)})
	}
	wantMet(t, met, 20, "another order")
}

// same tells whether two answers are the same.
func same(a, b answer) bool {
	if list, ok := a.value.([]int); ok {
		other, also := b.value.([]int)
		return also && a.e == b.e && slices.Equal(list, other)
	}
	return a.value == b.value && a.e == b.e
}
