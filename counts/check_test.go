package counts_test

import (
	"math"
	"reflect"
	"slices"
	"strconv"
	"testing"

	"ferrule/api"
	"ferrule/counts"
)

func span(low, high int) api.Span { return api.Span{Low: low, High: high} }

func blow(at, low, high int) api.Blow { return api.Blow{At: at, Force: span(low, high)} }

func meter(limit, count int) api.Meter { return api.Meter{Limit: limit, Count: count} }

// laden is a valid run with a truth, of which any one number can be changed.
func laden() api.Run {
	return api.Run{
		Canopy: domeD(),
		Blows:  []api.Blow{blow(0, 10, 14), blow(3, 41, 50), blow(5, 7, 7), blow(2, 50, 55)},
		Meters: []api.Meter{meter(13, 2), meter(45, 1), meter(52, 1)}, Wrong: 2,
	}
}

// number is one number of a run, set and checked by itself.
type number struct {
	name      string
	set       func(r *api.Run, n int)
	low, high int // the least and the greatest one with which the run laden is valid
}

func numbers() []number {
	all := []number{{"Wrong", func(r *api.Run, n int) { r.Wrong = n }, 0, 5}}
	for i, b := range laden().Blows {
		of := " of the blow " + strconv.Itoa(i)
		all = append(all,
			number{"At" + of, func(r *api.Run, n int) { r.Blows[i].At = n }, 0, 5},
			number{"Low" + of, func(r *api.Run, n int) { r.Blows[i].Force.Low = n }, max(0, b.Force.High-9), b.Force.High},
			number{"High" + of, func(r *api.Run, n int) { r.Blows[i].Force.High = n }, b.Force.Low, b.Force.Low + 9},
		)
	}
	for i := range laden().Meters {
		of := " of the meter " + strconv.Itoa(i)
		all = append(all,
			number{"Limit" + of, func(r *api.Run, n int) { r.Meters[i].Limit = n }, 0, 99},
			number{"Count" + of, func(r *api.Run, n int) { r.Meters[i].Count = n }, 0, 8},
		)
	}
	return all
}

// wrongs are changes each of which alone makes the run laden invalid.
func wrongs() map[string]func(r *api.Run) {
	all := map[string]func(r *api.Run){
		"nothing":                       func(r *api.Run) { *r = api.Run{} },
		"no dome":                       func(r *api.Run) { r.Canopy = api.Canopy{} },
		"no frame":                      func(r *api.Run) { r.Canopy.Frame = api.Frame{} },
		"an arm of 0":                   func(r *api.Run) { r.Canopy.Frame.Sections[0].Arm.Low = 0 },
		"no shares":                     func(r *api.Run) { r.Canopy.Shares = nil },
		"a rib less":                    func(r *api.Run) { r.Canopy.Ribs = r.Canopy.Ribs[:5] },
		"a rib of no strength":          func(r *api.Run) { r.Canopy.Ribs[2] = span(1, 0) },
		"a share of 100":                func(r *api.Run) { r.Canopy.Shares[5] = 100 },
		"no dome, blows and meters":     func(r *api.Run) { *r = api.Run{Wrong: 1} },
		"a force above all":             func(r *api.Run) { r.Blows[1].Force = span(100, 100) },
		"forces up to one above all":    func(r *api.Run) { r.Blows[1].Force = span(91, 100) },
		"forces below all":              func(r *api.Run) { r.Blows[1].Force = span(-2, -1) },
		"forces from one below all":     func(r *api.Run) { r.Blows[1].Force = span(-1, 0) },
		"a force that is turned":        func(r *api.Run) { r.Blows[1].Force = span(5, 4) },
		"ten forces more than one":      func(r *api.Run) { r.Blows[1].Force = span(0, 10) },
		"ten forces more up to the end": func(r *api.Run) { r.Blows[1].Force = span(89, 99) },
		"forces of all numbers":         func(r *api.Run) { r.Blows[1].Force = span(math.MinInt, math.MaxInt) },
		"the greatest force":            func(r *api.Run) { r.Blows[1].Force = span(math.MaxInt, math.MaxInt) },
		"the least force":               func(r *api.Run) { r.Blows[1].Force = span(math.MinInt, math.MinInt) },
		"from the greatest force":       func(r *api.Run) { r.Blows[1].Force = span(math.MaxInt-3, 3) },
		"the last of eight blows":       func(r *api.Run) { r.Blows = append(slices.Repeat(r.Blows[:1], 7), blow(6, 1, 1)) },
		"the last of five meters":       func(r *api.Run) { r.Meters = append(slices.Repeat(r.Meters[:1], 4), meter(100, 1)) },
		"a blow that fits another dome": func(r *api.Run) { r.Canopy.Ribs, r.Canopy.Shares = r.Canopy.Ribs[:5], r.Canopy.Shares[:5] },
	}
	for _, x := range numbers() {
		for name, n := range map[string]int{
			" too small": x.low - 1, " too great": x.high + 1, " least of all": math.MinInt, " greatest of all": math.MaxInt,
		} {
			all[x.name+name] = func(r *api.Run) { x.set(r, n) }
		}
	}
	for many, list := range map[int]string{9: "nine", 1000: "many"} {
		all[list+" blows"] = func(r *api.Run) { r.Blows = slices.Repeat([]api.Blow{blow(0, 1, 1)}, many) }
	}
	for many, list := range map[int]string{6: "six", 1000: "many"} {
		all[list+" meters"] = func(r *api.Run) { r.Meters = slices.Repeat([]api.Meter{meter(0, 4)}, many) }
	}
	return all
}

// untrue are changes with which the run laden has no truth, but has one if one more meter may be wrong.
func untrue() []func(r *api.Run) {
	meters := func(wrong int, list ...api.Meter) func(r *api.Run) {
		return func(r *api.Run) { r.Meters, r.Wrong = list, wrong }
	}
	return []func(r *api.Run){
		meters(0, meter(0, 3)), meters(0, meter(0, 5)), meters(0, meter(0, 8)), meters(0, meter(41, 1)), meters(0, meter(56, 1)),
		meters(0, meter(15, 3)), meters(0, meter(51, 2)), meters(0, meter(10, 4)), meters(0, meter(8, 0)),
		meters(0, meter(48, 2), meter(49, 1), meter(50, 2)), meters(0, meter(13, 3), meter(14, 2), meter(12, 2)),
		meters(1, meter(0, 0), meter(99, 4)), meters(1, meter(0, 4), meter(0, 3), meter(0, 2)), meters(2, meter(13, 2), meter(13, 3), meter(13, 2), meter(13, 3), meter(13, 4)),
		meters(3, meter(12, 0), meter(12, 1), meter(12, 4), meter(12, 5)), meters(4, slices.Repeat([]api.Meter{meter(45, 0)}, 5)...),
	}
}

// changed is the run laden with something else in it.
func changed(changes ...func(r *api.Run)) api.Run {
	r := laden()
	for _, change := range changes {
		change(&r)
	}
	return r
}

func TestP13_1Check(t *testing.T) {
	for _, x := range numbers() {
		for _, n := range []int{x.low, (x.low + x.high) / 2, x.high} {
			if e := counts.Check(changed(func(r *api.Run) { x.set(r, n) })); e != api.OK {
				t.Errorf("%s of %d: error %d", x.name, n, e)
			}
		}
	}
	for name, wrong := range wrongs() {
		if e := counts.Check(changed(wrong)); e != api.ErrRun {
			t.Errorf("%s: error %d", name, e)
		}
	}
}

func TestP13_1CheckEnds(t *testing.T) {
	all := []api.Run{laden(), runR(), runQ(), runP(), least(), most()}
	for many := range 9 {
		all = append(all, changed(func(r *api.Run) { r.Blows = slices.Repeat(r.Blows[:1], many) }))
	}
	for many := range 6 {
		all = append(all, changed(func(r *api.Run) { r.Meters = slices.Repeat(r.Meters[:1], many) }))
	}
	for _, s := range []api.Span{span(0, 0), span(0, 9), span(90, 99), span(99, 99)} {
		all = append(all, changed(func(r *api.Run) { r.Blows[0].Force = s }))
	}
	for _, change := range untrue() { // a run without a truth is valid
		all = append(all, changed(change))
	}
	for i, r := range all {
		if e := counts.Check(r); e != api.OK {
			t.Errorf("%d: error %d", i, e)
		}
	}
}

// least and most are runs with the least and the greatest of all numbers.
func least() api.Run {
	d := domeD()
	d.Ribs, d.Shares = make([]api.Span, 3), make([]int, 3)
	return api.Run{Canopy: d}
}

func most() api.Run {
	d := domeD()
	d.Ribs, d.Shares = slices.Repeat([]api.Span{span(99999, 99999)}, 10), slices.Repeat([]int{99}, 10)
	return api.Run{
		Canopy: d, Blows: slices.Repeat([]api.Blow{blow(9, 90, 99)}, 8),
		Meters: slices.Repeat([]api.Meter{meter(99, 8)}, 5), Wrong: 5,
	}
}

// answer is what a function returned, and whether it returned nothing but an error.
type answer struct {
	name  string
	value any
	zero  bool
	e     api.Errno
}

func answerOf[T any](name string, value T, e api.Errno) answer {
	v := reflect.ValueOf(value)
	zero := v.IsZero() || v.Kind() == reflect.Slice && v.Len() == 0
	return answer{name, value, zero, e}
}

// question is what can be asked of a run: a blow, a meter and a limit.
type question struct{ blow, meter, limit int }

// asked is a question that the run laden can be asked, and those of untrue but for their meters.
func asked() question { return question{1, 0, 47} }

// ofQuestion are the answers of the functions that want a blow, a meter or a limit.
func ofQuestion(r api.Run, q question) []answer {
	forces, e := counts.Forces(r, q.blow)
	right, f := counts.Right(r, q.meter)
	reads, g := counts.Reads(r, q.limit)
	return []answer{answerOf("Forces", forces, e), answerOf("Right", right, f), answerOf("Reads", reads, g)}
}

// ofTruth are the answers of the functions that want a truth and nothing else.
func ofTruth(r api.Run) []answer {
	many, e := counts.Many(r)
	stood, f := counts.Stood(r)
	harm, g := counts.Harm(r)
	shown, h := counts.Show(r)
	return []answer{answerOf("Many", many, e), answerOf("Stood", stood, f), answerOf("Harm", harm, g), answerOf("Show", shown, h)}
}

func ofRun(r api.Run) []answer {
	fewest, e := counts.Fewest(r)
	return []answer{answerOf("Fewest", fewest, e)}
}

func allOf(r api.Run, q question) []answer {
	return slices.Concat(ofRun(r), ofQuestion(r, q), ofTruth(r))
}

func wantErrors(t *testing.T, what string, all []answer, e api.Errno) {
	t.Helper()
	for _, x := range all {
		if x.e != e || !x.zero {
			t.Errorf("%s: %s = %v, error %d; want error %d", what, x.name, x.value, x.e, e)
		}
	}
}

func wantOK(t *testing.T, what string, all []answer) {
	t.Helper()
	for _, x := range all {
		if x.e != api.OK {
			t.Errorf("%s: %s: error %d", what, x.name, x.e)
		}
	}
}

// noQuestions are such as cannot be asked of the run laden, or of those of untrue.
func noQuestions() []question {
	var all []question
	for _, n := range []int{-1, 100, 101, 1000, math.MinInt, math.MaxInt} {
		all = append(all, question{n, n, n})
	}
	return append(all, question{4, 5, 100}, question{8, 8, -2})
}

// An invalid run comes before a question that is none.
func TestP1InvalidRuns(t *testing.T) {
	for name, wrong := range wrongs() {
		for _, q := range append(noQuestions(), asked()) {
			wantErrors(t, name, allOf(changed(wrong), q), api.ErrRun)
		}
		for _, change := range untrue()[:12] { // the wrong number may be one of those that are changed here
			if counts.Check(changed(wrong, change)) != api.OK {
				wantErrors(t, "no truth, "+name, allOf(changed(wrong, change), asked()), api.ErrRun)
			}
		}
	}
}

// A question that is none comes before a run without a truth.
func TestP1InvalidQuestions(t *testing.T) {
	wantOK(t, "valid", allOf(laden(), asked()))
	list := []api.Run{laden()}
	for _, change := range untrue() {
		list = append(list, changed(change))
	}
	for _, r := range list {
		for _, q := range noQuestions() {
			wantErrors(t, "no question", ofQuestion(r, q), api.ErrArg)
		}
		// the first ones that are none
		blows, meters := len(r.Blows), len(r.Meters)
		wantErrors(t, "one more", ofQuestion(r, question{blows, meters, 100}), api.ErrArg)
	}
	wantOK(t, "the first", ofQuestion(laden(), question{0, 0, 0}))
	wantOK(t, "the last", ofQuestion(laden(), question{3, 2, 99}))
	wantErrors(t, "no blows and meters", ofQuestion(least(), question{0, 0, 100}), api.ErrArg)
	wantOK(t, "greatest", ofQuestion(most(), question{7, 4, 99}))
	wantErrors(t, "too great", ofQuestion(most(), question{8, 5, 100}), api.ErrArg)
}

// Without a truth nothing is known but how many meters are wrong.
func TestP1NoTruth(t *testing.T) {
	for i, change := range untrue() {
		r, name := changed(change), strconv.Itoa(i)
		wantErrors(t, name, slices.Concat(ofQuestion(r, asked()), ofTruth(r)), api.ErrNone)
		wantOK(t, name, ofRun(r))
		r.Wrong++
		wantOK(t, name, allOf(r, asked()))
	}
}

func copied(r api.Run) api.Run {
	r.Canopy.Frame.Sections = slices.Clone(r.Canopy.Frame.Sections)
	r.Canopy.Ribs, r.Canopy.Shares = slices.Clone(r.Canopy.Ribs), slices.Clone(r.Canopy.Shares)
	r.Blows, r.Meters = slices.Clone(r.Blows), slices.Clone(r.Meters)
	return r
}

// filled sets all of a list, up to its capacity, to a number.
func filled(list []int) {
	for i := range list[:cap(list)] {
		list[:cap(list)][i] = -9
	}
}

// Arguments stay as they are, results are new memory, and the same is returned each time.
func TestP1Memory(t *testing.T) {
	for _, r := range []api.Run{laden(), runP(), changed(func(r *api.Run) { r.Meters = r.Meters[:1] }), changed(func(r *api.Run) { r.Meters[0] = meter(14, 3) })} {
		q := asked()
		before, was := copied(r), allOf(r, q)
		wantOK(t, "valid", was)
		for range 20 {
			again := allOf(r, q)
			if !reflect.DeepEqual(was, again) {
				t.Errorf("%v: %v, then %v", before, was, again)
			}
			for _, a := range again {
				if list, ok := a.value.([]int); ok {
					filled(list)
				}
			}
		}
		if !reflect.DeepEqual(r, before) {
			t.Errorf("%v became %v", before, r)
		}
	}
}

// The capacity of lists does not matter, and nothing behind their ends is changed.
func TestP1Capacity(t *testing.T) {
	want := allOf(laden(), asked())
	more := laden()
	more.Canopy.Ribs, more.Canopy.Shares = append(more.Canopy.Ribs, span(0, 0)), append(more.Canopy.Shares, 99)
	more.Blows, more.Meters = append(more.Blows, blow(0, 99, 99), blow(-9, 9, 0)), append(more.Meters, meter(0, 0), meter(-9, 9))
	before, roomy := copied(more), more
	roomy.Canopy.Ribs, roomy.Canopy.Shares = more.Canopy.Ribs[:6], more.Canopy.Shares[:6]
	roomy.Blows, roomy.Meters = more.Blows[:4], more.Meters[:3]
	if is := allOf(roomy, asked()); !reflect.DeepEqual(is, want) {
		t.Errorf("%v; want %v", is, want)
	}
	if !reflect.DeepEqual(more, before) {
		t.Errorf("%v became %v", before, more)
	}
}

// An empty list is as none.
func TestP1Empty(t *testing.T) {
	for _, all := range [][2]api.Run{
		{changed(func(r *api.Run) { r.Blows, r.Wrong = nil, 3 }), changed(func(r *api.Run) { r.Blows, r.Wrong = []api.Blow{}, 3 })},
		{changed(func(r *api.Run) { r.Meters = nil }), changed(func(r *api.Run) { r.Meters = []api.Meter{} })},
	} {
		if was, is := allOf(all[0], asked()), allOf(all[1], asked()); !reflect.DeepEqual(was, is) {
			t.Errorf("%v; %v", was, is)
		}
	}
}
