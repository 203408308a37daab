package canes_test

import (
	"math"
	"reflect"
	"slices"
	"strconv"
	"testing"

	"ferrule/api"
	"ferrule/canes"
)

// number is one number of a cane, set and checked by itself.
type number struct {
	name      string
	set       func(c *api.Cane, n int)
	low, high int // the least and the greatest one that is valid in C
}

func numbers() []number {
	all := []number{
		{"Low of Spring", func(c *api.Cane, n int) { c.Spring.Low = n }, 180, 220},
		{"High of Spring", func(c *api.Cane, n int) { c.Spring.High = n }, 180, 220},
		{"Wrong", func(c *api.Cane, n int) { c.Wrong = n }, 0, 2},
		{"Limit", func(c *api.Cane, n int) { c.Limit = n }, 1, 90},
		{"Tire", func(c *api.Cane, n int) { c.Tire = n }, 0, 90},
	}
	for i := range 3 {
		piece := strconv.Itoa(i)
		all = append(all,
			number{"By of the piece " + piece, func(c *api.Cane, n int) { three(c); c.Bents[i].By = n }, 1, 90},
			number{"Low of the piece " + piece, func(c *api.Cane, n int) { three(c); c.Bents[i].Back.Low = n }, 0, 10},
			number{"High of the piece " + piece, func(c *api.Cane, n int) { three(c); c.Bents[i].Back.High = n }, 10, 90},
		)
	}
	return all
}

// three makes three pieces of the one of C.
func three(c *api.Cane) { c.Bents = slices.Repeat(c.Bents[:1], 3) }

// wrongs are changes each of which alone makes C invalid.
func wrongs() map[string]func(c *api.Cane) {
	pieces := func(many int) func(c *api.Cane) {
		return func(c *api.Cane) { c.Bents = slices.Repeat(c.Bents, many) }
	}
	all := map[string]func(c *api.Cane){
		"nothing":                 func(c *api.Cane) { *c = api.Cane{} },
		"nine pieces":             pieces(9),
		"many pieces":             pieces(1000),
		"a spring of some spread": func(c *api.Cane) { c.Spring = span(0, 41) },
		"a spread at the end":     func(c *api.Cane) { c.Spring = span(459, 500) },
		"a spring of all numbers": func(c *api.Cane) { c.Spring = span(math.MinInt, math.MaxInt) },
		"a spring that is turned": func(c *api.Cane) { c.Spring = span(math.MaxInt, math.MinInt) },
		"a spring below 0":        func(c *api.Cane) { c.Spring = span(-2, -1) },
		"a spring around 0":       func(c *api.Cane) { c.Spring = span(-1, 1) },
		"a spring above all":      func(c *api.Cane) { c.Spring = span(501, 501) },
		"a spring to above all":   func(c *api.Cane) { c.Spring = span(490, 501) },
		"a piece of nothing":      func(c *api.Cane) { c.Bents = append(c.Bents, api.Bent{}) },
		"a piece below 0":         func(c *api.Cane) { c.Bents[0].Back = span(-2, -1) },
		"a piece above all":       func(c *api.Cane) { c.Bents[0].Back = span(91, 91) },
		"a piece that is turned":  func(c *api.Cane) { c.Bents[0].Back = span(math.MaxInt, math.MinInt) },
		"a piece of all numbers":  func(c *api.Cane) { c.Bents[0].Back = span(math.MinInt, math.MaxInt) },
		"the last of eight":       func(c *api.Cane) { c.Bents = append(slices.Repeat(c.Bents, 7), bent(91, 0, 0)) },
	}
	for _, x := range numbers() {
		for name, n := range map[string]int{
			" too small": x.low - 1, " too great": x.high + 1, " least of all": math.MinInt, " greatest of all": math.MaxInt,
		} {
			all[x.name+name] = func(c *api.Cane) { x.set(c, n) }
		}
	}
	return all
}

func TestP6_1Check(t *testing.T) {
	for _, x := range numbers() {
		for _, n := range []int{x.low, (x.low + x.high) / 2, x.high} {
			c := caneC()
			x.set(&c, n)
			if e := canes.Check(c); e != api.OK {
				t.Errorf("%s of %d: error %d", x.name, n, e)
			}
		}
	}
	for name, change := range wrongs() {
		c := caneC()
		change(&c)
		if e := canes.Check(c); e != api.ErrCane {
			t.Errorf("%s: error %d", name, e)
		}
	}
}

func TestP6_1CheckEnds(t *testing.T) {
	full := cane(func(c *api.Cane) { c.Bents = slices.Repeat([]api.Bent{bent(90, 0, 90), bent(1, 90, 90)}, 4) })
	all := []api.Cane{full, exact(0, 1, 0), exact(500, 90, 90), loose(0, 40, 2), loose(460, 500, 2)}
	// one without a truth is valid
	for _, x := range sprungs() {
		all = append(all, x.c)
	}
	for i, c := range all {
		if e := canes.Check(c); e != api.OK {
			t.Errorf("%d: error %d", i, e)
		}
	}
}

// answer is what a function returned, and whether it returned nothing but an error.
type answer struct {
	name  string
	value any
	zero  bool
	e     api.Errno
}

func answerOf[T any](name string, value T, e api.Errno) answer {
	v := reflect.ValueOf(value)
	zero := v.IsZero() || v.Kind() == reflect.Slice && v.Len() == 0
	return answer{name, value, zero, e}
}

// ofBends are the answers that are of bends, ofWanted those of a wanted angle;
// Fits, which is of both, is one of both.
func ofBends(c api.Cane, bends []int, want api.Span) []answer {
	after, e := canes.After(c, bends)
	fits, f := canes.Fits(c, bends, want)
	return []answer{answerOf("After", after, e), answerOf("Fits", fits, f)}
}

func ofWanted(c api.Cane, bends []int, want api.Span) []answer {
	fits, e := canes.Fits(c, bends, want)
	fewest, f := canes.Fewest(c, want)
	list, g := canes.Bends(c, want)
	measured, h := canes.Measured(c, want)
	first, i := canes.First(c, want)
	return []answer{
		answerOf("Fits", fits, e), answerOf("Fewest", fewest, f), answerOf("Bends", list, g), answerOf("Measured", measured, h), answerOf("First", first, i),
	}
}

func allOf(c api.Cane, bends []int, want api.Span) []answer {
	springs, e := canes.Springs(c)
	return slices.Concat(ofBends(c, bends, want), ofWanted(c, bends, want), []answer{answerOf("Springs", springs, e)})
}

func ofSteamer(s api.Steamer, order []int) []answer {
	done, e := canes.Done(s, order)
	quickest, f := canes.Quickest(s)
	list, g := canes.Order(s)
	return []answer{answerOf("Done", done, e), answerOf("Quickest", quickest, f), answerOf("Order", list, g)}
}

func wantErrors(t *testing.T, what string, all []answer, e api.Errno) {
	t.Helper()
	for _, x := range all {
		if x.e != e || !x.zero {
			t.Errorf("%s: %s = %v, error %d; want error %d", what, x.name, x.value, x.e, e)
		}
	}
}

// invalidBends are bends that are none, whatever the cane is.
func invalidBends() [][]int {
	return [][]int{
		bends(0), bends(-1), bends(91), bends(math.MinInt), bends(math.MaxInt), bends(1, 0), bends(0, 1), bends(1, 2, 91), bends(1, 1, 1, 1, 1, 0),
		bends(1, 1, 1, 1, 1, 1, 1), make([]int, 7), slices.Repeat(bends(90), 1000),
		// also if one before or behind is not possible
		bends(41, 0), bends(0, 41), bends(90, 90, 90, 91), bends(41, 1, 1, 1, 1, 1, 1),
	}
}

func invalidWanted() []api.Span {
	return []api.Span{
		span(-1, 0), span(-1, 540), span(0, -1), span(1, 0), span(540, 539), span(0, 541), span(541, 541),
		span(math.MinInt, math.MaxInt), span(math.MaxInt, math.MinInt), span(0, math.MaxInt), span(math.MinInt, 0), span(math.MaxInt, math.MaxInt), span(math.MinInt, math.MinInt),
	}
}

// lost is C with a piece more with which it has no truth.
func lost() api.Cane {
	return cane(func(c *api.Cane) { c.Bents = append(c.Bents, bent(50, 9, 9)) })
}

// An invalid cane comes before bends and angles that are invalid.
func TestP1InvalidCanes(t *testing.T) {
	for name, change := range wrongs() {
		c := caneC()
		change(&c)
		for _, l := range append(invalidBends(), nil, bends(40), bends(41)) {
			wantErrors(t, name, allOf(c, l, span(0, 0)), api.ErrCane)
			wantErrors(t, name, allOf(c, l, span(1, 0)), api.ErrCane)
		}
		for _, want := range invalidWanted() {
			wantErrors(t, name, allOf(c, nil, want), api.ErrCane)
		}
	}
}

// Invalid bends and angles come before bends that are not possible, and canes without a truth.
func TestP1InvalidBends(t *testing.T) {
	for _, c := range []api.Cane{caneC(), lost(), exact(500, 90, 0), exact(0, 1, 90)} {
		for _, l := range invalidBends() {
			wantErrors(t, "invalid bends", ofBends(c, l, span(0, 540)), api.ErrArg)
			wantErrors(t, "both of them", ofBends(c, l, span(1, 0)), api.ErrArg)
		}
		for _, want := range invalidWanted() {
			wantErrors(t, "an invalid angle", ofWanted(c, nil, want), api.ErrArg)
			wantErrors(t, "an invalid angle", ofWanted(c, bends(90, 90), want), api.ErrArg)
		}
	}
	for _, want := range []api.Span{span(0, 0), span(0, 540), span(540, 540)} {
		if n, e := canes.Fits(exact(0, 90, 0), slices.Repeat(bends(90), 6), want); e != api.OK {
			t.Errorf("Fits of six bends and %v = %d, error %d", want, n, e)
		}
	}
}

func TestP1Cracks(t *testing.T) {
	for i, x := range []struct {
		c     api.Cane
		bends []int
		e     api.Errno
	}{
		{caneC(), bends(40), api.OK}, {caneC(), bends(41), api.ErrCrack}, {caneC(), bends(40, 30), api.OK}, {caneC(), bends(40, 31), api.ErrCrack}, {caneC(), bends(1, 31), api.ErrCrack},
		{caneC(), bends(40, 30, 20, 10), api.OK}, {caneC(), bends(40, 30, 20, 11), api.ErrCrack}, {caneC(), bends(40, 30, 21, 10), api.ErrCrack},
		{caneC(), bends(1, 1, 1, 1), api.OK}, {caneC(), bends(1, 1, 1, 1, 1), api.ErrCrack}, {caneC(), bends(1, 1, 1, 1, 1, 1), api.ErrCrack},
		{exact(0, 1, 0), slices.Repeat(bends(1), 6), api.OK}, {exact(0, 1, 0), bends(1, 1, 1, 1, 1, 2), api.ErrCrack},
		{exact(0, 90, 90), bends(90), api.OK}, {exact(0, 90, 90), bends(1, 1), api.ErrCrack}, {exact(0, 90, 89), bends(90, 1), api.OK}, {exact(0, 90, 89), bends(90, 2), api.ErrCrack}, {exact(0, 1, 90), bends(1, 90, 90, 90, 90, 90), api.ErrCrack},
	} {
		for _, y := range ofBends(x.c, x.bends, span(0, 540)) {
			if y.e != x.e || x.e != api.OK && !y.zero {
				t.Errorf("%d: %s of %v = %v, error %d; want error %d", i, y.name, x.bends, y.value, y.e, x.e)
			}
		}
	}
	// a bend that is not possible comes before a cane without a truth
	wantErrors(t, "41", ofBends(lost(), bends(41), span(0, 0)), api.ErrCrack)
	wantErrors(t, "40 31", ofBends(lost(), bends(40, 31), span(0, 0)), api.ErrCrack)
}

func TestP1NoTruth(t *testing.T) {
	for _, x := range sprungs() {
		if x.springs != nil {
			continue
		}
		for _, l := range [][]int{nil, bends(1), bends(30)} {
			if len(l) > 0 && l[0] > x.c.Limit {
				continue
			}
			// even if no bend is needed
			wantErrors(t, "no truth", allOf(x.c, l, span(0, 0)), api.ErrNone)
			wantErrors(t, "no truth", allOf(x.c, l, span(0, 540)), api.ErrNone)
			wantErrors(t, "no truth", allOf(x.c, l, span(30, 31)), api.ErrNone)
		}
	}
	wantErrors(t, "no truth", allOf(lost(), bends(40, 30), span(0, 0)), api.ErrNone)
}

func invalidSteamers() map[string]api.Steamer {
	all := map[string]api.Steamer{
		"nothing":                       {},
		"boils without room":            box(0, 1, 1),
		"room below 0":                  box(-1),
		"too much room":                 box(8, 1, 1),
		"least room of all":             box(math.MinInt, 1, 1),
		"greatest room of all":          box(math.MaxInt, 1, 1),
		"eight boils":                   box(7, make([]int, 16)...),
		"many boils":                    box(7, make([]int, 2000)...),
		"the last soak of seven":        box(7, 0, 0, 0, 0, 0, 0, 0, 0, 0, 0, 0, 0, 1000, 0),
		"the last bend of seven":        box(7, 0, 0, 0, 0, 0, 0, 0, 0, 0, 0, 0, 0, 0, 1000),
		"a soak below 0 before another": box(7, -1, 0, 1, 1),
	}
	for name, n := range map[string]int{"too small": -1, "too great": 1000, "least of all": math.MinInt, "greatest of all": math.MaxInt} {
		all["a soak "+name] = box(2, n, 5)
		all["a bend "+name] = box(2, 5, n)
	}
	return all
}

// An invalid steamer comes before an order that is invalid.
func TestP1InvalidSteamers(t *testing.T) {
	for name, s := range invalidSteamers() {
		for _, l := range [][]int{nil, bends(0), bends(0, 1), bends(-1), bends(0, 0), make([]int, 8)} {
			wantErrors(t, name, ofSteamer(s, l), api.ErrSteamer)
		}
	}
	for _, s := range []api.Steamer{box(1), box(7), box(1, make([]int, 14)...), box(7, slices.Repeat(bends(999), 14)...)} {
		if n, e := canes.Quickest(s); e != api.OK {
			t.Errorf("Quickest = %d, error %d", n, e)
		}
	}
}

func TestP1InvalidOrders(t *testing.T) {
	for _, l := range [][]int{
		nil, {}, {0}, {0, 1}, {0, 1, 2, 2}, {0, 1, 2, 3}, {0, 1, 1}, {0, 1, 3}, {1, 2, 3}, {-1, 0, 1}, {0, 0, 0}, {2, 2, 2},
		{math.MinInt, 0, 1}, {0, math.MaxInt, 1}, slices.Repeat(bends(0, 1, 2), 100),
	} {
		wantErrors(t, "an invalid order", ofSteamer(boxS(2), l)[:1], api.ErrArg)
	}
	wantErrors(t, "an order of none", ofSteamer(box(1), bends(0))[:1], api.ErrArg)
	wantErrors(t, "an order of one", ofSteamer(box(1, 1, 1), bends(1))[:1], api.ErrArg)
}

// Arguments stay as they are, results are new memory, and the same is returned each time.
func TestP1Memory(t *testing.T) {
	x := newRandom(3)
	large := x.cane(sizes()["few bends"])
	for _, c := range []api.Cane{caneC(), large, exact(0, 30, 0)} {
		for _, want := range []api.Span{span(31, 31), span(0, 3), span(80, 80)} {
			tried := x.bends(c)
			before, bent := c, slices.Clone(tried)
			before.Bents = slices.Clone(c.Bents)
			first := allOf(c, tried, want)
			for _, y := range allOf(c, tried, want) {
				if list, ok := y.value.([]int); ok {
					clear(list[:cap(list)])
				}
			}
			if !reflect.DeepEqual(c, before) || !slices.Equal(tried, bent) {
				t.Errorf("%v, %v became %v, %v", before, bent, c, tried)
			}
			if again := allOf(c, tried, want); !reflect.DeepEqual(first, again) {
				t.Errorf("%v: %v, then %v", before, first, again)
			}
		}
	}
}

func TestP1MemoryOfSteamers(t *testing.T) {
	s, before, order := boxS(2), boxS(2), bends(2, 0, 1)
	first := ofSteamer(s, order)
	list, _ := canes.Order(s)
	clear(list[:cap(list)])
	if again := ofSteamer(s, order); !reflect.DeepEqual(s, before) || !slices.Equal(order, bends(2, 0, 1)) || !reflect.DeepEqual(first, again) {
		t.Errorf("%v, then %v; %v, %v", first, again, s, order)
	}
}

// The capacity of lists does not matter, and nothing behind their ends is changed.
func TestP1Capacity(t *testing.T) {
	c, tried := caneC(), bends(39)
	want := allOf(c, tried, span(31, 31))
	pieces, longer := append(c.Bents, bent(50, 9, 9)), append(tried, 91)
	c.Bents, tried = pieces[:1], longer[:1]
	if is := allOf(c, tried, span(31, 31)); !reflect.DeepEqual(is, want) {
		t.Errorf("%v; want %v", is, want)
	}
	s, order := boxS(2), bends(1, 0, 2, 9)
	boils := append(s.Boils, api.Boil{Soak: -1, Bend: 77})
	s.Boils = boils[:3]
	if n, e := canes.Done(s, order[:3]); n != 32 || e != api.OK {
		t.Errorf("Done = %d, error %d", n, e)
	}
	if pieces[1] != bent(50, 9, 9) || longer[1] != 91 || boils[3] != (api.Boil{Soak: -1, Bend: 77}) || order[3] != 9 {
		t.Errorf("%v, %v, %v, %v", pieces, longer, boils, order)
	}
}

// An empty list is as none.
func TestP1Empty(t *testing.T) {
	c := loose(180, 220, 0)
	empty := c
	empty.Bents = []api.Bent{}
	if a, b := allOf(c, nil, span(39, 41)), allOf(empty, []int{}, span(39, 41)); !reflect.DeepEqual(a, b) {
		t.Errorf("%v; %v", a, b)
	}
	wantErrors(t, "an order of none", ofSteamer(boxS(2), []int{})[:1], api.ErrArg)
	if n, e := canes.Done(api.Steamer{Room: 1, Boils: []api.Boil{}}, []int{}); n != 0 || e != api.OK {
		t.Errorf("Done = %d, error %d", n, e)
	}
}
