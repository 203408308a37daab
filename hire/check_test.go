package hire_test

import (
	"math"
	"reflect"
	"slices"
	"strconv"
	"testing"

	"ferrule/api"
	"ferrule/hire"
)

func span(low, high int) api.Span { return api.Span{Low: low, High: high} }

func lent(id, clerk, at, umbrella, guest int) api.Slip {
	return api.Slip{Id: id, Clerk: clerk, At: at, Kind: api.Lent, Umbrella: umbrella, Guest: guest}
}

func back(id, clerk, at, umbrella int) api.Slip {
	return api.Slip{Id: id, Clerk: clerk, At: at, Kind: api.Returned, Umbrella: umbrella}
}

// laden is a valid counter of which any one number can be changed.
func laden() api.Counter {
	return api.Counter{
		Clerks: []api.Span{span(-30, 5), span(0, 0), span(2, 30)},
		Slips:  []api.Slip{lent(10, 0, 100, 3, 7), back(20, 1, 160, 3), lent(30, 2, 9999, 9, 99), lent(40, 1, 0, 0, 0)},
		Voided: []int{5, 99, 0},
		Closed: []api.Span{span(0, 5), span(6, 6), span(20, 200), span(9990, 9999)},
		Tariff: api.Tariff{Free: 10, Unit: 30, Price: 50, Most: 400, Lost: 500, Value: 1500, Pledge: 1000},
	}
}

// number is one number of a counter, set and checked by itself.
type number struct {
	name      string
	set       func(c *api.Counter, n int)
	low, high int // the least and the greatest one that is valid in the counter laden
}

func numbers() []number {
	all := []number{
		{"Free", func(c *api.Counter, n int) { c.Tariff.Free = n }, 0, 9999},
		{"Unit", func(c *api.Counter, n int) { c.Tariff.Unit = n }, 1, 9999},
		{"Price", func(c *api.Counter, n int) { c.Tariff.Price = n }, 0, 100000},
		{"Most", func(c *api.Counter, n int) { c.Tariff.Most = n }, 0, 100000},
		{"Lost", func(c *api.Counter, n int) { c.Tariff.Lost = n }, 1, 9999},
		{"Value", func(c *api.Counter, n int) { c.Tariff.Value = n }, 0, 100000},
		{"Pledge", func(c *api.Counter, n int) { c.Tariff.Pledge = n }, 0, 100000},
	}
	for i, s := range laden().Clerks {
		of := " of the clerk " + strconv.Itoa(i)
		all = append(all,
			number{"Low" + of, func(c *api.Counter, n int) { c.Clerks[i].Low = n }, -30, s.High},
			number{"High" + of, func(c *api.Counter, n int) { c.Clerks[i].High = n }, s.Low, 30},
		)
	}
	for i := range laden().Voided {
		all = append(all, number{"voided Id " + strconv.Itoa(i), func(c *api.Counter, n int) { c.Voided[i] = n }, 0, 99})
	}
	for i := range laden().Closed {
		all = append(all, numbersOfClosed(i)...)
	}
	for i := range laden().Slips {
		all = append(all, numbersOfSlip(i)...)
	}
	return all
}

func numbersOfClosed(i int) []number {
	of := " of the closed span " + strconv.Itoa(i)
	closed := laden().Closed
	low, high := 0, 9999
	if i > 0 {
		low = closed[i-1].High + 1
	}
	if i+1 < len(closed) {
		high = closed[i+1].Low - 1
	}
	return []number{
		{"Low" + of, func(c *api.Counter, n int) { c.Closed[i].Low = n }, low, closed[i].High},
		{"High" + of, func(c *api.Counter, n int) { c.Closed[i].High = n }, closed[i].Low, high},
	}
}

func numbersOfSlip(i int) []number {
	of := " of the slip " + strconv.Itoa(i)
	s := laden().Slips[i]
	kinds, guests := span(1, 2), span(0, 99)
	if s.Guest > 0 {
		kinds.High = api.Lent
	}
	if s.Kind == api.Returned {
		guests.High = 0
	}
	return []number{
		{"Id" + of, func(c *api.Counter, n int) { c.Slips[i].Id = n }, 0, 99},
		{"Clerk" + of, func(c *api.Counter, n int) { c.Slips[i].Clerk = n }, 0, 2},
		{"At" + of, func(c *api.Counter, n int) { c.Slips[i].At = n }, 0, 9999},
		{"Kind" + of, func(c *api.Counter, n int) { c.Slips[i].Kind = n }, kinds.Low, kinds.High},
		{"Umbrella" + of, func(c *api.Counter, n int) { c.Slips[i].Umbrella = n }, 0, 9},
		{"Guest" + of, func(c *api.Counter, n int) { c.Slips[i].Guest = n }, guests.Low, guests.High},
	}
}

// wrongs are changes each of which alone makes the counter laden invalid.
func wrongs() map[string]func(c *api.Counter) {
	all := map[string]func(c *api.Counter){
		"four clerks":          func(c *api.Counter) { c.Clerks = append(c.Clerks, span(0, 0)) },
		"many clerks":          func(c *api.Counter) { c.Clerks = make([]api.Span, 1000) },
		"watches below all":    func(c *api.Counter) { c.Clerks[1] = span(-31, -31) },
		"watches above all":    func(c *api.Counter) { c.Clerks[1] = span(31, 31) },
		"watches of all":       func(c *api.Counter) { c.Clerks[1] = span(math.MinInt, math.MaxInt) },
		"watches turned":       func(c *api.Counter) { c.Clerks[1] = span(30, -30) },
		"no clerks":            func(c *api.Counter) { c.Clerks = nil },
		"the slips of another": func(c *api.Counter) { c.Clerks = c.Clerks[:2] },
		"thirteen slips":       func(c *api.Counter) { c.Slips = append(slices.Repeat(c.Slips, 3), c.Slips[0]) },
		"many slips":           func(c *api.Counter) { c.Slips = slices.Repeat(c.Slips[:1], 1000) },
		"the last of twelve slips": func(c *api.Counter) {
			c.Slips = append(slices.Repeat(c.Slips[:1], 11), lent(50, 1, 1, 10, 1))
		},
		"a slip of nothing":           func(c *api.Counter) { c.Slips = append(c.Slips, api.Slip{}) },
		"a guest who brings it back":  func(c *api.Counter) { c.Slips[1].Guest = 7 },
		"thirteen voided":             func(c *api.Counter) { c.Voided = make([]int, 13) },
		"many voided":                 func(c *api.Counter) { c.Voided = make([]int, 1000) },
		"the last of twelve voided":   func(c *api.Counter) { c.Voided = append(make([]int, 11), 100) },
		"five closed spans":           func(c *api.Counter) { c.Closed = append(c.Closed[:3], span(300, 300), span(302, 302)) },
		"many closed spans":           func(c *api.Counter) { c.Closed = make([]api.Span, 1000) },
		"closed spans that touch":     func(c *api.Counter) { c.Closed = []api.Span{span(1, 5), span(5, 9)} },
		"closed spans that lie in":    func(c *api.Counter) { c.Closed = []api.Span{span(1, 9), span(3, 4)} },
		"equal closed spans":          func(c *api.Counter) { c.Closed = []api.Span{span(4, 4), span(4, 4)} },
		"closed spans that descend":   func(c *api.Counter) { c.Closed = []api.Span{span(5, 9), span(1, 2)} },
		"the last of them descends":   func(c *api.Counter) { c.Closed = []api.Span{span(1, 2), span(5, 9), span(3, 4)} },
		"a closed span that is none":  func(c *api.Counter) { c.Closed = []api.Span{span(9, 8)} },
		"a closed span below all":     func(c *api.Counter) { c.Closed = []api.Span{span(-2, -1)} },
		"a closed span above all":     func(c *api.Counter) { c.Closed = []api.Span{span(10000, 10000)} },
		"a closed span of all":        func(c *api.Counter) { c.Closed = []api.Span{span(math.MinInt, math.MaxInt)} },
		"no tariff":                   func(c *api.Counter) { c.Tariff = api.Tariff{} },
		"a tariff without a unit":     func(c *api.Counter) { c.Tariff = api.Tariff{Lost: 1} },
		"a tariff with nothing lost":  func(c *api.Counter) { c.Tariff = api.Tariff{Unit: 1} },
		"an invalid slip twice":       func(c *api.Counter) { c.Slips = []api.Slip{back(1, 3, 1, 1), back(1, 3, 1, 1)} },
		"an invalid slip that's void": func(c *api.Counter) { c.Slips[0].Umbrella, c.Voided = 10, []int{10} },
	}
	for _, x := range numbers() {
		for name, n := range map[string]int{
			" too small": x.low - 1, " too great": x.high + 1, " least of all": math.MinInt, " greatest of all": math.MaxInt,
		} {
			all[x.name+name] = func(c *api.Counter) { x.set(c, n) }
		}
	}
	return all
}

// clashes are changes with which slips of the counter laden clash.
func clashes() []func(c *api.Counter) {
	more := func(slips ...api.Slip) func(c *api.Counter) {
		return func(c *api.Counter) { c.Slips = append(c.Slips, slips...) }
	}
	return []func(c *api.Counter){
		more(lent(10, 1, 100, 3, 7)), more(lent(10, 0, 101, 3, 7)), more(back(10, 0, 100, 3)), more(lent(10, 0, 100, 4, 7)), more(lent(10, 0, 100, 3, 8)), more(back(40, 1, 0, 0)), more(back(50, 1, 0, 0), back(50, 1, 1, 0)),
		more(laden().Slips[0], laden().Slips[1], lent(30, 2, 9998, 9, 99)),
		func(c *api.Counter) { c.Slips[3].Id = 10 },
		// slips that are void clash too
		func(c *api.Counter) { c.Voided, c.Slips[3].Id = []int{10}, 10 },
		func(c *api.Counter) { c.Slips, c.Voided = []api.Slip{lent(0, 1, 1, 1, 1), back(0, 1, 1, 1)}, []int{0} },
	}
}

// untrue are changes with which the counter laden has no truth.
func untrue() []func(c *api.Counter) {
	more := func(slips ...api.Slip) func(c *api.Counter) {
		return func(c *api.Counter) { c.Slips = append(c.Slips, slips...) }
	}
	return []func(c *api.Counter){
		more(back(50, 1, 1, 1)),                         // back before it went out
		more(lent(50, 1, 1, 0, 5)),                      // out twice
		more(lent(50, 1, 0, 0, 0)),                      // a slip with another Id is another one, at the same minute
		more(back(50, 1, 0, 0)),                         // out and back in the same minute
		more(back(50, 1, 161, 3)),                       // back twice
		more(back(50, 2, 9990, 9)),                      // by the watch of the same clerk back before it went out
		more(lent(50, 1, 150, 3, 7), back(51, 1, 1, 3)), // out twice, and back before all
		func(c *api.Counter) { c.Voided = []int{10} },   // only that it is back
		func(c *api.Counter) { c.Slips[0].At = 190 },    // out after it is back, by any watch
		func(c *api.Counter) { c.Slips[0].At, c.Clerks[0].Low = 160, 0 },
	}
}

// changed is the counter laden with something else in it.
func changed(changes ...func(c *api.Counter)) api.Counter {
	c := laden()
	for _, change := range changes {
		change(&c)
	}
	return c
}

func TestP9_1Check(t *testing.T) {
	for _, x := range numbers() {
		for _, n := range []int{x.low, (x.low + x.high) / 2, x.high} {
			if e := hire.Check(changed(func(c *api.Counter) { x.set(c, n) })); e != api.OK {
				t.Errorf("%s of %d: error %d", x.name, n, e)
			}
		}
	}
	for name, wrong := range wrongs() {
		if e := hire.Check(changed(wrong)); e != api.ErrCounter {
			t.Errorf("%s: error %d", name, e)
		}
	}
	for i, clash := range clashes() {
		if e := hire.Check(changed(clash)); e != api.ErrSlip {
			t.Errorf("%d: error %d", i, e)
		}
		for _, x := range numbers()[:13] { // those of the tariff and the clerks
			if e := hire.Check(changed(clash, func(c *api.Counter) { x.set(c, x.low-1) })); e != api.ErrCounter {
				t.Errorf("%d, %s: error %d", i, x.name, e)
			}
		}
	}
}

func TestP9_1CheckEnds(t *testing.T) {
	plain := api.Tariff{Unit: 1, Lost: 1}
	all := []api.Counter{
		{Tariff: plain}, {Tariff: api.Tariff{Free: 9999, Unit: 9999, Price: 100000, Most: 100000, Lost: 9999, Value: 100000, Pledge: 100000}},
		{Clerks: []api.Span{span(-30, 30), span(-30, -30), span(30, 30)}, Tariff: plain},
		{Clerks: make([]api.Span, 3), Slips: slices.Repeat([]api.Slip{lent(99, 2, 9999, 9, 99)}, 12), Tariff: plain},
		{Clerks: make([]api.Span, 1), Slips: []api.Slip{lent(0, 0, 0, 0, 0)}, Voided: make([]int, 12), Tariff: plain},
		{Voided: slices.Repeat([]int{99}, 12), Closed: []api.Span{span(0, 0), span(1, 1), span(3, 9998), span(9999, 9999)}, Tariff: plain},
		{Closed: []api.Span{span(0, 9999)}, Tariff: plain},
		laden(), counterC(),
		changed(func(c *api.Counter) { c.Slips = slices.Repeat(c.Slips, 3) }), // equal slips are one
		changed(func(c *api.Counter) { c.Slips[3].Guest, c.Slips[3].Kind = 0, api.Returned }),
	}
	for _, change := range untrue() { // a counter without a truth is valid
		all = append(all, changed(change))
	}
	for i, c := range all {
		if e := hire.Check(c); e != api.OK {
			t.Errorf("%d: error %d", i, e)
		}
	}
}

// asked is what is asked of a counter.
type asked struct{ clerk, slip, guest, umbrella, minute int }

// first are questions that can be asked of the counter laden.
func first() asked { return asked{clerk: 0, slip: 10, guest: 7, umbrella: 3, minute: 150} }

// answer is what a function returned, and whether it returned nothing but an error.
type answer struct {
	name  string
	value any
	zero  bool
	e     api.Errno
}

func answerOf[T any](name string, value T, e api.Errno) answer {
	v := reflect.ValueOf(value)
	zero := v.IsZero() || v.Kind() == reflect.Slice && v.Len() == 0
	return answer{name, value, zero, e}
}

func ofClerk(c api.Counter, a asked) []answer {
	watch, e := hire.Watch(c, a.clerk)
	return []answer{answerOf("Watch", watch, e)}
}

func ofSlip(c api.Counter, a asked) []answer {
	lasts, e := hire.Lasts(c, a.slip)
	fee, f := hire.Fee(c, a.slip)
	return []answer{answerOf("Lasts", lasts, e), answerOf("Fee", fee, f)}
}

func ofGuest(c api.Counter, a asked) []answer {
	owes, e := hire.Owes(c, a.guest)
	return []answer{answerOf("Owes", owes, e)}
}

func ofUmbrella(c api.Counter, a asked) []answer {
	where, e := hire.Where(c, a.umbrella, a.minute)
	return []answer{answerOf("Where", where, e)}
}

func ofMinute(c api.Counter, a asked) []answer {
	held, e := hire.Held(c, a.minute)
	sure, may, f := hire.Missing(c, a.minute)
	return []answer{answerOf("Held", held, e), answerOf("Missing surely", sure, f), answerOf("Missing perhaps", may, f)}
}

// ofTruth are the answers of all functions that look for a truth.
func ofTruth(c api.Counter, a asked) []answer {
	return slices.Concat(ofClerk(c, a), ofSlip(c, a), ofGuest(c, a), ofUmbrella(c, a), ofMinute(c, a))
}

// ofMerge are the answers of Merge with nothing new, and as something new.
func ofMerge(c api.Counter) []answer {
	merged, e := hire.Merge(c, nil, nil)
	added, f := hire.Merge(api.Counter{Clerks: c.Clerks, Closed: c.Closed, Tariff: c.Tariff}, c.Slips, c.Voided)
	return []answer{answerOf("Merge", merged, e), answerOf("Merge of more", added, f)}
}

func allOf(c api.Counter, a asked) []answer { return append(ofTruth(c, a), ofMerge(c)...) }

func wantErrors(t *testing.T, what string, all []answer, e api.Errno) {
	t.Helper()
	for _, x := range all {
		if x.e != e || !x.zero {
			t.Errorf("%s: %s = %v, error %d; want error %d", what, x.name, x.value, x.e, e)
		}
	}
}

func wantOK(t *testing.T, what string, all []answer) {
	t.Helper()
	for _, x := range all {
		if x.e != api.OK {
			t.Errorf("%s: %s: error %d", what, x.name, x.e)
		}
	}
}

// wild are questions that are invalid for any counter.
func wild() []asked {
	return []asked{{-1, -1, -1, -1, -1}, {math.MaxInt, math.MinInt, math.MaxInt, math.MinInt, math.MaxInt}, {math.MinInt, math.MaxInt, math.MinInt, math.MaxInt, math.MinInt}}
}

// An invalid counter comes before slips that clash, and these before questions that are invalid.
func TestP1InvalidCounters(t *testing.T) {
	questions := append(wild(), first())
	for name, wrong := range wrongs() {
		for _, a := range questions {
			wantErrors(t, name, allOf(changed(wrong), a), api.ErrCounter)
		}
	}
	for i, clash := range clashes() {
		for _, a := range questions {
			wantErrors(t, strconv.Itoa(i), allOf(changed(clash), a), api.ErrSlip)
			wantErrors(t, "no truth", allOf(changed(untrue()[0], clash, func(c *api.Counter) { c.Slips[0].At = 9999 }), a), api.ErrSlip)
			for _, x := range numbers()[:13] {
				wantErrors(t, x.name, allOf(changed(clash, func(c *api.Counter) { x.set(c, x.high+1) }), a), api.ErrCounter)
			}
		}
	}
}

// invalid is a question that is invalid for the counter laden, and all answers to it.
type invalid struct {
	name   string
	change func(a *asked)
	of     func(c api.Counter, a asked) []answer
}

func invalids() []invalid {
	var all []invalid
	add := func(name string, of func(c api.Counter, a asked) []answer, change func(a *asked)) {
		all = append(all, invalid{name, change, of})
	}
	for _, n := range []int{-1, 3, 4, math.MinInt, math.MaxInt} {
		add("another clerk", ofClerk, func(a *asked) { a.clerk = n })
	}
	// slips that are not there, and that of an umbrella that is back
	for _, n := range []int{-1, 0, 1, 5, 11, 20, 50, 99, 100, math.MinInt, math.MaxInt} {
		add("no slip", ofSlip, func(a *asked) { a.slip = n })
	}
	for _, n := range []int{-1, 100, 101, math.MinInt, math.MaxInt} {
		add("another guest", ofGuest, func(a *asked) { a.guest = n })
	}
	for _, n := range []int{-1, 10, 11, math.MinInt, math.MaxInt} {
		add("another umbrella", ofUmbrella, func(a *asked) { a.umbrella = n })
	}
	for _, n := range []int{-1, 10000, 10001, math.MinInt, math.MaxInt} {
		add("another minute", ofUmbrella, func(a *asked) { a.minute = n })
		add("another minute", ofMinute, func(a *asked) { a.minute = n })
	}
	return all
}

// Questions that are invalid come before counters without a truth.
func TestP1InvalidQuestions(t *testing.T) {
	for _, c := range []api.Counter{laden(), changed(untrue()[0]), changed(untrue()[4])} {
		for _, x := range invalids() {
			a := first()
			x.change(&a)
			wantErrors(t, x.name, x.of(c, a), api.ErrArg)
		}
		for _, a := range wild() {
			wantErrors(t, "wild", ofTruth(c, a), api.ErrArg)
		}
	}
	for _, a := range []asked{first(), {0, 10, 0, 0, 0}, {2, 10, 99, 9, 9999}, {1, 10, 50, 5, 5000}} {
		wantOK(t, "valid", allOf(laden(), a))
	}
	// slips that are void do not count, and no other ones are void
	void := changed(func(c *api.Counter) { c.Voided = []int{99, 20, 10} })
	wantErrors(t, "void", ofSlip(void, first()), api.ErrArg)
	wantErrors(t, "not void, but not finished", ofSlip(void, asked{slip: 40}), api.ErrNone)
	wantErrors(t, "void, and no truth", ofSlip(changed(untrue()[7]), first()), api.ErrArg)
}

// No counter has something of nothing, but one without clerks has a truth.
func TestP1Nothing(t *testing.T) {
	nothing := api.Counter{Tariff: api.Tariff{Unit: 1, Lost: 1}}
	for _, a := range []asked{{}, {1, 1, 1, 1, 1}} {
		wantErrors(t, "nothing", append(ofClerk(nothing, a), ofSlip(nothing, a)...), api.ErrArg)
		wantOK(t, "nothing", slices.Concat(ofGuest(nothing, a), ofUmbrella(nothing, a), ofMinute(nothing, a), ofMerge(nothing)))
		if l, e := hire.Where(nothing, a.umbrella, a.minute); !slices.Equal(l, []int{-1}) || e != api.OK {
			t.Errorf("Where = %v, error %d", l, e)
		}
	}
	wantErrors(t, "no tariff", allOf(api.Counter{}, asked{}), api.ErrCounter)
}

// Without a truth nothing is known, also not of other umbrellas and of minutes before all; but it can be merged.
func TestP1NoTruth(t *testing.T) {
	for i, change := range untrue() {
		c := changed(change)
		for _, a := range []asked{{0, 40, 0, 0, 0}, {2, 30, 99, 9, 9999}, {1, 30, 50, 5, 5000}} {
			wantErrors(t, strconv.Itoa(i), ofTruth(c, a), api.ErrNone)
		}
		wantOK(t, strconv.Itoa(i), ofMerge(c))
	}
}

func copied(c api.Counter) api.Counter {
	c.Clerks, c.Slips, c.Voided, c.Closed = slices.Clone(c.Clerks), slices.Clone(c.Slips), slices.Clone(c.Voided), slices.Clone(c.Closed)
	return c
}

// filled sets all of a list, up to its capacity, to a value.
func filled[E any](list []E, value E) {
	for i := range list[:cap(list)] {
		list[:cap(list)][i] = value
	}
}

// Arguments stay as they are, results are new memory, and the same is returned each time.
func TestP1Memory(t *testing.T) {
	late := []api.Slip{lent(70, 1, 300, 5, 3), back(60, 1, 310, 5), lent(70, 1, 300, 5, 3)}
	void := []int{80, 70, 80}
	for i, c := range []api.Counter{laden(), counterC(), changed(func(c *api.Counter) { slices.Reverse(c.Slips) })} {
		before, a := copied(c), asked{clerk: 1, slip: []int{10, 1, 10}[i], umbrella: 3, minute: 159}
		was := allOf(c, a)
		for _, x := range [][]api.Slip{nil, late} {
			merged, e := hire.Merge(c, x, void)
			if e != api.OK {
				t.Errorf("%d: error %d", i, e)
			}
			filled(merged.Clerks, span(-9, -9))
			filled(merged.Slips, lent(-9, -9, -9, -9, -9))
			filled(merged.Voided, -9)
			filled(merged.Closed, span(-9, -9))
		}
		for _, x := range ofTruth(c, a) {
			if list, ok := x.value.([]int); ok {
				filled(list, -9)
			}
		}
		if !reflect.DeepEqual(c, before) {
			t.Errorf("%v became %v", before, c)
		}
		if again := allOf(c, a); !reflect.DeepEqual(was, again) {
			t.Errorf("%v: %v, then %v", before, was, again)
		}
	}
	if !slices.Equal(late, []api.Slip{lent(70, 1, 300, 5, 3), back(60, 1, 310, 5), lent(70, 1, 300, 5, 3)}) || !slices.Equal(void, []int{80, 70, 80}) {
		t.Errorf("%v, %v", late, void)
	}
}

// The capacity of lists does not matter, and nothing behind their ends is changed.
func TestP1Capacity(t *testing.T) {
	c, a := counterC(), asked{clerk: 1, slip: 3, guest: 8, umbrella: 3, minute: 159}
	want := allOf(c, a)
	more := api.Counter{
		Clerks: append(c.Clerks, span(9, -9)), Slips: append(c.Slips, lent(-9, 0, 0, 0, 0), lent(1, 0, 0, 0, 0)), Voided: []int{77, -9},
		Closed: append(c.Closed, span(9, -9)),
	}
	before := copied(more)
	c.Clerks, c.Slips, c.Voided, c.Closed = more.Clerks[:2], more.Slips[:5], more.Voided[:0], more.Closed[:1]
	if is := allOf(c, a); !reflect.DeepEqual(is, want) {
		t.Errorf("%v; want %v", is, want)
	}
	merged, e := hire.Merge(c, more.Slips[:4], more.Voided[:1])
	if len(merged.Slips) != 5 || !slices.Equal(merged.Voided, []int{77}) || e != api.OK {
		t.Errorf("Merge = %v, error %d", merged, e)
	}
	if !reflect.DeepEqual(more, before) {
		t.Errorf("%v; want %v", more, before)
	}
}

// An empty list is as none.
func TestP1Empty(t *testing.T) {
	nothing := api.Counter{Tariff: laden().Tariff}
	empty := api.Counter{Clerks: []api.Span{}, Slips: []api.Slip{}, Voided: []int{}, Closed: []api.Span{}, Tariff: laden().Tariff}
	if was, is := ofTruth(nothing, asked{}), ofTruth(empty, asked{}); !reflect.DeepEqual(was, is) {
		t.Errorf("%v; %v", was, is)
	}
	for _, c := range []api.Counter{nothing, empty} {
		for _, slips := range [][]api.Slip{nil, {}} {
			for _, voided := range [][]int{nil, {}} {
				m, e := hire.Merge(c, slips, voided)
				if len(m.Clerks)+len(m.Slips)+len(m.Voided)+len(m.Closed) > 0 || m.Tariff != c.Tariff || e != api.OK {
					t.Errorf("Merge = %v, error %d", m, e)
				}
			}
		}
	}
	c, d := laden(), laden()
	c.Voided, c.Closed, d.Voided, d.Closed = nil, nil, []int{}, []api.Span{}
	if was, is := ofTruth(c, first()), ofTruth(d, first()); !reflect.DeepEqual(was, is) {
		t.Errorf("%v; %v", was, is)
	}
}
