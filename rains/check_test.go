package rains_test

import (
	"math"
	"reflect"
	"slices"
	"strconv"
	"testing"

	"ferrule/api"
	"ferrule/rains"
)

func span(low, high int) api.Span { return api.Span{Low: low, High: high} }

func rain(day, low, high int) api.Rain { return api.Rain{Day: day, Level: span(low, high)} }

func fair(price int, sells ...int) api.Fair { return api.Fair{Price: price, Sells: sells} }

// laden is a valid tour with a truth, of which any one number can be changed.
func laden() api.Tour {
	return api.Tour{
		Days: 4, Step: 2, Rains: []api.Rain{rain(0, 1, 2), rain(2, 0, 3), rain(1, 3, 3)}, Wrong: 2,
		Fairs: []api.Fair{fair(30, 4, 3, 2, 1), fair(7, 0, 9, 9, 50)}, Reach: 1, Stock: 12,
	}
}

// number is one number of a tour, set and checked by itself.
type number struct {
	name      string
	set       func(t *api.Tour, n int)
	low, high int // the least and the greatest one with which the tour laden is valid
}

func numbers() []number {
	all := []number{
		{"Days", func(t *api.Tour, n int) { t.Days = n }, 3, 6},
		{"Step", func(t *api.Tour, n int) { t.Step = n }, 0, 3},
		{"Wrong", func(t *api.Tour, n int) { t.Wrong = n }, 0, 10},
		{"Reach", func(t *api.Tour, n int) { t.Reach = n }, 0, 4},
		{"Stock", func(t *api.Tour, n int) { t.Stock = n }, 0, 999},
	}
	for i, r := range laden().Rains {
		of := " of the forecast " + strconv.Itoa(i)
		all = append(all,
			number{"Day" + of, func(t *api.Tour, n int) { t.Rains[i].Day = n }, 0, 3},
			number{"Low" + of, func(t *api.Tour, n int) { t.Rains[i].Level.Low = n }, 0, r.Level.High},
			number{"High" + of, func(t *api.Tour, n int) { t.Rains[i].Level.High = n }, r.Level.Low, 3},
		)
	}
	for i, f := range laden().Fairs {
		of := " of the market " + strconv.Itoa(i)
		all = append(all, number{"Price" + of, func(t *api.Tour, n int) { t.Fairs[i].Price = n }, 0, 999})
		for level := range f.Sells {
			all = append(all, number{"Sells " + strconv.Itoa(level) + of, func(t *api.Tour, n int) { t.Fairs[i].Sells[level] = n }, 0, 99})
		}
	}
	return all
}

// wrongs are changes each of which alone makes the tour laden invalid.
func wrongs() map[string]func(t *api.Tour) {
	all := map[string]func(t *api.Tour){}
	for _, x := range numbers() {
		for name, n := range map[string]int{
			" too small": x.low - 1, " too great": x.high + 1, " least of all": math.MinInt, " greatest of all": math.MaxInt,
		} {
			all[x.name+name] = func(t *api.Tour) { x.set(t, n) }
		}
	}
	for many, list := range map[int]string{11: "eleven", 1000: "many"} {
		all[list+" forecasts"] = func(t *api.Tour) { t.Rains = slices.Repeat([]api.Rain{rain(0, 0, 3)}, many) }
	}
	all["a forecast of no level"] = func(t *api.Tour) { t.Rains[1] = rain(0, 4, 4) }
	all["a forecast of levels below all"] = func(t *api.Tour) { t.Rains[1] = rain(0, -2, -1) }
	all["the last of ten forecasts"] = func(t *api.Tour) {
		t.Rains = append(slices.Repeat([]api.Rain{rain(0, 0, 3)}, 9), rain(4, 0, 3))
	}
	all["no markets"] = func(t *api.Tour) { t.Fairs = nil }
	all["no markets, an empty list"] = func(t *api.Tour) { t.Fairs = []api.Fair{} }
	for many, list := range map[int]string{5: "five", 1000: "many"} {
		all[list+" markets"] = func(t *api.Tour) { t.Fairs = slices.Repeat(t.Fairs[:1], many) }
	}
	all["the last of four markets"] = func(t *api.Tour) { t.Fairs = append(slices.Repeat(t.Fairs[:1], 3), fair(1, 0, 0, 0, -1)) }
	all["an empty market"] = func(t *api.Tour) { t.Fairs[1] = api.Fair{} }
	for _, many := range []int{0, 1, 3, 5, 1000} {
		all[strconv.Itoa(many)+" numbers of Sells"] = func(t *api.Tour) { t.Fairs[1].Sells = make([]int, many) }
	}
	for _, days := range []int{0, -1, 7, math.MinInt, math.MaxInt} {
		all[strconv.Itoa(days)+" days and no forecasts"] = func(t *api.Tour) { t.Days, t.Rains = days, nil }
	}
	all["nothing"] = func(t *api.Tour) { *t = api.Tour{} }
	return all
}

// untrue are changes with which the tour laden has no truth, but has one if one more forecast may be wrong.
func untrue() []func(t *api.Tour) {
	forecasts := func(wrong, step int, list ...api.Rain) func(t *api.Tour) {
		return func(t *api.Tour) { t.Rains, t.Wrong, t.Step = list, wrong, step }
	}
	return []func(t *api.Tour){
		forecasts(0, 3, rain(0, 0, 0), rain(0, 1, 3)),
		forecasts(0, 3, rain(3, 0, 2), rain(3, 3, 3)),
		forecasts(0, 2, rain(0, 0, 0), rain(1, 3, 3)),
		forecasts(0, 1, rain(3, 0, 0), rain(1, 3, 3)),
		forecasts(0, 0, rain(3, 0, 2), rain(0, 3, 3)),
		forecasts(0, 0, rain(0, 0, 1), rain(1, 1, 2), rain(2, 0, 0)),
		forecasts(1, 0, rain(0, 0, 1), rain(1, 2, 3), rain(2, 0, 0), rain(3, 3, 3)),
		forecasts(1, 2, rain(1, 0, 0), rain(1, 0, 0), rain(1, 3, 3), rain(1, 3, 3)),
		forecasts(2, 3, rain(1, 0, 0), rain(1, 1, 1), rain(1, 2, 2), rain(1, 3, 3)),
		forecasts(4, 3, slices.Repeat([]api.Rain{rain(2, 0, 1), rain(2, 2, 3)}, 5)...),
		forecasts(6, 3, rain(0, 0, 0), rain(0, 0, 0), rain(0, 1, 1), rain(0, 1, 1), rain(0, 1, 1), rain(0, 2, 2), rain(0, 2, 2), rain(0, 2, 2), rain(0, 3, 3), rain(0, 3, 3)),
	}
}

// changed is the tour laden with something else in it.
func changed(changes ...func(t *api.Tour)) api.Tour {
	t := laden()
	for _, change := range changes {
		change(&t)
	}
	return t
}

func TestP11_1Check(t *testing.T) {
	for _, x := range numbers() {
		for _, n := range []int{x.low, x.high} {
			if e := rains.Check(changed(func(t *api.Tour) { x.set(t, n) })); e != api.OK {
				t.Errorf("%s of %d: error %d", x.name, n, e)
			}
		}
	}
	for name, wrong := range wrongs() {
		if e := rains.Check(changed(wrong)); e != api.ErrTour {
			t.Errorf("%s: error %d", name, e)
		}
	}
}

func TestP11_1CheckEnds(t *testing.T) {
	all := []api.Tour{
		laden(), tourT(), tourU(), least(), most(),
		{Days: 1, Fairs: []api.Fair{fair(0, 0, 0, 0, 0)}, Rains: slices.Repeat([]api.Rain{rain(0, 0, 0)}, 10)},
		{Days: 6, Fairs: []api.Fair{fair(0, 0, 0, 0, 0)}, Rains: slices.Repeat([]api.Rain{rain(5, 3, 3)}, 10)},
	}
	for many := range 11 {
		all = append(all, changed(func(t *api.Tour) { t.Rains = slices.Repeat(t.Rains[:1], many) }))
	}
	for many := 1; many <= 4; many++ {
		all = append(all, changed(func(t *api.Tour) { t.Fairs = slices.Repeat(t.Fairs[:1], many) }))
	}
	for _, change := range untrue() { // a tour without a truth is valid
		all = append(all, changed(change))
	}
	for i, x := range all {
		if e := rains.Check(x); e != api.OK {
			t.Errorf("%d: error %d", i, e)
		}
	}
}

// least and most are tours with the least and the greatest of all numbers.
func least() api.Tour { return api.Tour{Days: 1, Fairs: []api.Fair{fair(0, 0, 0, 0, 0)}} }

func most() api.Tour {
	return api.Tour{
		Days: 6, Step: 3, Rains: slices.Repeat([]api.Rain{rain(5, 0, 3)}, 10), Wrong: 10,
		Fairs: slices.Repeat([]api.Fair{fair(999, 99, 99, 99, 99)}, 4), Reach: 4, Stock: 999,
	}
}

// answer is what a function returned, and whether it returned nothing but an error.
type answer struct {
	name  string
	value any
	zero  bool
	e     api.Errno
}

func answerOf[T any](name string, value T, e api.Errno) answer {
	v := reflect.ValueOf(value)
	zero := v.IsZero() || v.Kind() == reflect.Slice && v.Len() == 0
	return answer{name, value, zero, e}
}

// question is what can be asked of a tour: a day, a forecast and a route.
type question struct {
	day, rain int
	route     []int
}

// asked is a question that the tour laden, and the tours of untrue, can be asked.
func asked() question { return question{3, 1, []int{1, 0, 1, 1}} }

// ofQuestion are the answers of the functions that want a day, a forecast or a route.
func ofQuestion(t api.Tour, q question) []answer {
	levels, e := rains.Levels(t, q.day)
	right, f := rains.Right(t, q.rain)
	takes, g := rains.Takes(t, q.route)
	left, h := rains.Left(t, q.route)
	return []answer{answerOf("Levels", levels, e), answerOf("Right", right, f), answerOf("Takes", takes, g), answerOf("Left", left, h)}
}

// ofTruth are the answers of the functions that want a truth and nothing else.
func ofTruth(t api.Tour) []answer {
	many, e := rains.Many(t)
	best, f := rains.Best(t)
	route, g := rains.Route(t)
	hopes, h := rains.Hopes(t)
	return []answer{answerOf("Many", many, e), answerOf("Best", best, f), answerOf("Route", route, g), answerOf("Hopes", hopes, h)}
}

func ofTour(t api.Tour) []answer {
	fewest, e := rains.Fewest(t)
	return []answer{answerOf("Fewest", fewest, e)}
}

func allOf(t api.Tour, q question) []answer {
	return slices.Concat(ofTour(t), ofQuestion(t, q), ofTruth(t))
}

func wantErrors(t *testing.T, what string, all []answer, e api.Errno) {
	t.Helper()
	for _, x := range all {
		if x.e != e || !x.zero {
			t.Errorf("%s: %s = %v, error %d; want error %d", what, x.name, x.value, x.e, e)
		}
	}
}

func wantOK(t *testing.T, what string, all []answer) {
	t.Helper()
	for _, x := range all {
		if x.e != api.OK {
			t.Errorf("%s: %s: error %d", what, x.name, x.e)
		}
	}
}

// noQuestions are such as cannot be asked of the tour laden, or of those of untrue: no day, no forecast and no route.
func noQuestions() []question {
	routes := [][]int{
		nil, {}, {0}, {0, 0, 0}, {0, 0, 0, 0, 0}, make([]int, 1000),
		{-1, 0, 0, 0}, {0, 2, 1, 1}, {0, 0, -1, 0}, {1, 1, 1, 2}, {1, 1, 1, math.MaxInt}, {math.MinInt, 0, 0, 0}, {0, math.MinInt, math.MaxInt, 0}, {0, 0, math.MaxInt, math.MinInt},
	}
	var all []question
	for _, n := range []int{-1, 10, 11, 1000, math.MinInt, math.MaxInt} {
		for _, route := range routes {
			all = append(all, question{n, n, route})
		}
	}
	return append(all, question{4, 10, nil}, question{5, 10, nil})
}

// An invalid tour comes before a question that is none.
func TestP1InvalidTours(t *testing.T) {
	for name, wrong := range wrongs() {
		for _, q := range append(noQuestions(), asked()) {
			wantErrors(t, name, allOf(changed(wrong), q), api.ErrTour)
		}
		for _, change := range untrue()[5:7] { // the wrong number may be one of those that are changed here
			if x := changed(change, wrong); rains.Check(x) != api.OK {
				wantErrors(t, "no truth, "+name, allOf(x, asked()), api.ErrTour)
			}
		}
	}
}

// A question that is none comes before a tour without a truth.
func TestP1InvalidQuestions(t *testing.T) {
	wantOK(t, "valid", allOf(laden(), asked()))
	list := []api.Tour{laden(), changed(func(t *api.Tour) { t.Reach = 4 })}
	for _, change := range untrue() {
		list = append(list, changed(change))
	}
	for _, x := range list {
		for _, q := range noQuestions() {
			wantErrors(t, "no question", ofQuestion(x, q), api.ErrArg)
		}
	}
	for days := 3; days <= 6; days++ {
		x := changed(func(t *api.Tour) { t.Days = days })
		wantErrors(t, "one more", ofQuestion(x, question{days, 3, make([]int, days+1)}), api.ErrArg)
		wantErrors(t, "one less", ofQuestion(x, question{-1, -1, make([]int, days-1)}), api.ErrArg)
		wantOK(t, "the last", ofQuestion(x, question{days - 1, 2, make([]int, days)}))
	}
	wantErrors(t, "no forecasts", ofQuestion(least(), question{1, 0, []int{1}}), api.ErrArg)
}

// Markets of days that follow each other are within the reach, those of other days need not be.
func TestP1InvalidRoutes(t *testing.T) {
	for reach := range 5 {
		x := changed(func(t *api.Tour) { t.Reach, t.Fairs = reach, slices.Repeat(t.Fairs[:1], 4) })
		for _, route := range [][]int{{0, 1, 2, 3}, {3, 2, 1, 0}, {0, 0, 0, 1}, {2, 1, 1, 1}, {0, 2, 2, 2}, {1, 3, 1, 3}, {0, 0, 3, 3}, {3, 3, 3, 0}, {3, 0, 1, 2}, {0, 1, 3, 1}, {2, 2, 2, 2}} {
			far := 0
			for day := 1; day < 4; day++ {
				far = max(far, route[day]-route[day-1], route[day-1]-route[day])
			}
			takes, e := rains.Takes(x, route)
			left, f := rains.Left(x, route)
			is := []answer{answerOf("Takes", takes, e), answerOf("Left", left, f)}
			if far > reach {
				wantErrors(t, "too far", is, api.ErrArg)
			} else {
				wantOK(t, "near", is)
			}
		}
	}
}

// Without a truth nothing is known but how many forecasts are wrong.
func TestP1NoTruth(t *testing.T) {
	for i, change := range untrue() {
		x, name := changed(change), strconv.Itoa(i)
		wantErrors(t, name, slices.Concat(ofQuestion(x, asked()), ofTruth(x)), api.ErrNone)
		wantOK(t, name, ofTour(x))
		x.Wrong++
		wantOK(t, name, allOf(x, asked()))
	}
}

func copied(t api.Tour) api.Tour {
	t.Rains, t.Fairs = slices.Clone(t.Rains), slices.Clone(t.Fairs)
	for i, f := range t.Fairs {
		t.Fairs[i].Sells = slices.Clone(f.Sells)
	}
	return t
}

// filled sets all of a list, up to its capacity, to a number.
func filled(list []int) {
	for i := range list[:cap(list)] {
		list[:cap(list)][i] = -9
	}
}

// Arguments stay as they are, results are new memory, and the same is returned each time.
func TestP1Memory(t *testing.T) {
	for _, x := range []api.Tour{laden(), changed(func(t *api.Tour) { t.Reach = 0 }), changed(func(t *api.Tour) { t.Rains, t.Wrong = append(t.Rains, rain(3, 0, 0)), 0 })} {
		q := asked()
		if x.Reach == 0 {
			q.route = []int{1, 1, 1, 1}
		}
		before, route, was := copied(x), slices.Clone(q.route), allOf(x, q)
		wantOK(t, "valid", was)
		for _, a := range allOf(x, q) {
			if list, ok := a.value.([]int); ok {
				filled(list)
			}
		}
		if !reflect.DeepEqual(x, before) || !slices.Equal(q.route, route) {
			t.Errorf("%v, %v became %v, %v", before, route, x, q.route)
		}
		if again := allOf(x, q); !reflect.DeepEqual(was, again) {
			t.Errorf("%v: %v, then %v", before, was, again)
		}
	}
}

// The capacity of lists does not matter, and nothing behind their ends is changed.
func TestP1Capacity(t *testing.T) {
	want := allOf(laden(), asked())
	more := laden()
	more.Rains = append(more.Rains, rain(9, 9, 0), rain(3, 0, 0))
	for i, f := range more.Fairs {
		more.Fairs[i].Sells = append(f.Sells, -9, 3)
	}
	more.Fairs = append(more.Fairs, fair(-9))
	before, q := copied(more), asked()
	route := append(slices.Clone(q.route), -9, 9)
	roomy := copied(more)
	roomy.Rains, roomy.Fairs = more.Rains[:3], slices.Clone(more.Fairs[:2])
	for i, f := range more.Fairs[:2] {
		roomy.Fairs[i].Sells = f.Sells[:4]
	}
	q.route = route[:4]
	if is := allOf(roomy, q); !reflect.DeepEqual(is, want) {
		t.Errorf("%v; want %v", is, want)
	}
	if !reflect.DeepEqual(more, before) || !slices.Equal(route, append(asked().route, -9, 9)) {
		t.Errorf("%v became %v; %v", before, more, route)
	}
}

// An empty list is as none.
func TestP1Empty(t *testing.T) {
	nothing, empty := laden(), laden()
	nothing.Rains, empty.Rains = nil, []api.Rain{}
	q := asked()
	was, is := append(ofTour(nothing), ofTruth(nothing)...), append(ofTour(empty), ofTruth(empty)...)
	if !reflect.DeepEqual(was, is) {
		t.Errorf("%v; %v", was, is)
	}
	if was, is := ofQuestion(nothing, q), ofQuestion(empty, q); !reflect.DeepEqual(was, is) {
		t.Errorf("%v; %v", was, is)
	}
	if was, is := ofQuestion(laden(), question{}), ofQuestion(laden(), question{route: []int{}}); !reflect.DeepEqual(was, is) {
		t.Errorf("%v; %v", was, is)
	}
}
