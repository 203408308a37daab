package gusts_test

import (
	"math"
	"reflect"
	"slices"
	"strconv"
	"testing"

	"ferrule/api"
	"ferrule/gusts"
)

func copied(d api.Canopy) api.Canopy {
	d.Frame.Sections = slices.Clone(d.Frame.Sections)
	d.Ribs, d.Shares = slices.Clone(d.Ribs), slices.Clone(d.Shares)
	return d
}

// number is one number of a dome, set and checked by itself.
type number struct {
	name      string
	set       func(d *api.Canopy, n int)
	low, high int // the least and the greatest one that is valid in D
}

func numbers() []number {
	var all []number
	for i, s := range domeD().Ribs {
		rib := strconv.Itoa(i)
		all = append(all,
			number{"Low of the rib " + rib, func(d *api.Canopy, n int) { d.Ribs[i].Low = n }, 0, s.High},
			number{"High of the rib " + rib, func(d *api.Canopy, n int) { d.Ribs[i].High = n }, s.Low, 99999},
			number{"share " + rib, func(d *api.Canopy, n int) { d.Shares[i] = n }, 0, 99},
		)
	}
	return all
}

// wrongs are changes each of which alone makes D invalid.
func wrongs() map[string]func(d *api.Canopy) {
	ribs := func(n int) func(d *api.Canopy) {
		return func(d *api.Canopy) { d.Ribs, d.Shares = make([]api.Span, n), make([]int, n) }
	}
	all := map[string]func(d *api.Canopy){
		"nothing":                func(d *api.Canopy) { *d = api.Canopy{} },
		"no ribs and shares":     func(d *api.Canopy) { d.Ribs, d.Shares = nil, nil },
		"one rib":                ribs(1),
		"two ribs":               ribs(2),
		"eleven ribs":            ribs(11),
		"many ribs":              ribs(1000),
		"no ribs":                func(d *api.Canopy) { d.Ribs = nil },
		"no shares":              func(d *api.Canopy) { d.Shares = nil },
		"empty shares":           func(d *api.Canopy) { d.Shares = []int{} },
		"a rib less":             func(d *api.Canopy) { d.Ribs = d.Ribs[:5] },
		"a rib more":             func(d *api.Canopy) { d.Ribs = append(d.Ribs, span(0, 1)) },
		"a share less":           func(d *api.Canopy) { d.Shares = d.Shares[:5] },
		"a share more":           func(d *api.Canopy) { d.Shares = append(d.Shares, 1) },
		"a rib below 0":          func(d *api.Canopy) { d.Ribs[2] = span(-2, -1) },
		"a rib that is turned":   func(d *api.Canopy) { d.Ribs[2] = span(1, 0) },
		"a rib above all":        func(d *api.Canopy) { d.Ribs[2] = span(100000, 100000) },
		"a rib of all numbers":   func(d *api.Canopy) { d.Ribs[2] = span(math.MinInt, math.MaxInt) },
		"a frame of nothing":     func(d *api.Canopy) { d.Frame = api.Frame{} },
		"no sections":            func(d *api.Canopy) { d.Frame.Sections = nil },
		"four sections":          func(d *api.Canopy) { d.Frame.Sections = slices.Repeat(d.Frame.Sections, 2) },
		"Low 0":                  func(d *api.Canopy) { d.Frame.Low = 0 },
		"High below Low":         func(d *api.Canopy) { d.Frame.High = 19 },
		"an arm of 0":            func(d *api.Canopy) { d.Frame.Sections[0].Arm.Low = 0 },
		"an arm of some play":    func(d *api.Canopy) { d.Frame.Sections[0].Arm.High = 57 },
		"the other stretcher":    func(d *api.Canopy) { d.Frame.Sections[1].Stretch.High = 0 },
		"Gear of the first":      func(d *api.Canopy) { d.Frame.Sections[0].Gear = api.Frac{} },
		"Gear of the other":      func(d *api.Canopy) { d.Frame.Sections[1].Gear.Den = 0 },
		"Ease":                   func(d *api.Canopy) { d.Frame.Ease = api.Frac{Num: 2, Den: 1} },
		"Rod":                    func(d *api.Canopy) { d.Frame.Rod = -1 },
		"Case":                   func(d *api.Canopy) { d.Frame.Case = 4001 },
		"all of it":              func(d *api.Canopy) { *d = api.Canopy{Ribs: []api.Span{span(1, 0)}, Shares: []int{-1, 100}} },
		"greatest of the frame":  func(d *api.Canopy) { d.Frame.Low, d.Frame.High = math.MaxInt, math.MaxInt },
		"least of the frame":     func(d *api.Canopy) { d.Frame.Low, d.Frame.High = math.MinInt, math.MinInt },
		"the first share at 100": func(d *api.Canopy) { d.Shares[0] = 100 },
	}
	for _, x := range numbers() {
		for name, n := range map[string]int{
			" too small": x.low - 1, " too great": x.high + 1, " least of all": math.MinInt, " greatest of all": math.MaxInt,
		} {
			all[x.name+name] = func(d *api.Canopy) { x.set(d, n) }
		}
	}
	return all
}

func TestP5_1Check(t *testing.T) {
	for _, x := range numbers() {
		for _, n := range []int{x.low, (x.low + x.high) / 2, x.high} {
			d := domeD()
			x.set(&d, n)
			if e := gusts.Check(d); e != api.OK {
				t.Errorf("%s of %d: error %d", x.name, n, e)
			}
		}
	}
	for name, change := range wrongs() {
		d := domeD()
		change(&d)
		if e := gusts.Check(d); e != api.ErrCanopy {
			t.Errorf("%s: error %d", name, e)
		}
	}
}

func TestP5_1CheckEnds(t *testing.T) {
	for i, d := range []api.Canopy{
		domeD(), even(0, 0, 0, 0), even(99999, 99, 99, 99), even(7, 1, 2, 3, 4, 5, 6, 7, 8, 9, 10),
		even(0, slices.Repeat([]int{99}, 10)...),
		loaded(make([]int, 10), slices.Repeat([]api.Span{span(0, 99999)}, 10)...),
		// a frame that binds, and one without a distance of its other section, are valid
		withFrame(single(span(1, 1), span(2000, 2000), 1)),
		dome(elsewhereIn("no distance of the other")),
		dome(elsewhereIn("a section more")),
	} {
		if e := gusts.Check(d); e != api.OK {
			t.Errorf("%d: error %d", i, e)
		}
	}
}

func elsewhereIn(name string) func(d *api.Canopy) {
	return func(d *api.Canopy) { elsewhere()[name](&d.Frame) }
}

// answer is what a function returned, and whether it returned nothing but an error.
type answer struct {
	name  string
	value any
	zero  bool
	e     api.Errno
}

func answerOf[T any](name string, value T, e api.Errno) answer {
	v := reflect.ValueOf(value)
	zero := v.IsZero() || v.Kind() == reflect.Slice && v.Len() == 0
	return answer{name, value, zero, e}
}

// ofGust are the answers that are of one gust, ofClass those of a class.
func ofGust(d api.Canopy, g api.Gust) []answer {
	loads, e := gusts.Loads(d, g)
	sure, may, h := gusts.Goes(d, g)
	return []answer{answerOf("Loads", loads, e), answerOf("Goes, surely", sure, h), answerOf("Goes", may, h)}
}

func ofClass(d api.Canopy, class []api.Gust) []answer {
	n, e := gusts.Stands(d, class)
	first, ribs, h := gusts.First(d, class)
	weak, j := gusts.Weak(d, class)
	return []answer{
		answerOf("Stands", n, e), answerOf("First", first, h), answerOf("ribs of First", ribs, h), answerOf("Weak", weak, j),
	}
}

func ofRib(d api.Canopy, at int) answer {
	n, e := gusts.Most(d, at)
	return answerOf("Most", n, e)
}

// allOf are all answers; the class has the gust behind one that D does not stand.
func allOf(d api.Canopy, g api.Gust) []answer {
	lift, e := gusts.Lift(d)
	return slices.Concat(ofGust(d, g), ofClass(d, class(gust(99, 0), g)), []answer{ofRib(d, g.At), answerOf("Lift", lift, e)})
}

func wantErrors(t *testing.T, what string, all []answer, e api.Errno) {
	t.Helper()
	for _, x := range all {
		if x.e != e || !x.zero {
			t.Errorf("%s: %s = %v, error %d; want error %d", what, x.name, x.value, x.e, e)
		}
	}
}

// An invalid dome comes before gusts that are invalid, or too many.
func TestP1InvalidDomes(t *testing.T) {
	for name, change := range wrongs() {
		d := domeD()
		change(&d)
		for _, g := range []api.Gust{gust(14, 0), gust(0, 0), gust(-1, 0), gust(14, -1), gust(100, 11), gust(math.MinInt, math.MaxInt), gust(math.MaxInt, math.MinInt)} {
			wantErrors(t, name, allOf(d, g), api.ErrCanopy)
		}
		wantErrors(t, name, ofClass(d, nil), api.ErrCanopy)
		wantErrors(t, name, ofClass(d, make([]api.Gust, 21)), api.ErrCanopy)
	}
}

func TestP1InvalidGusts(t *testing.T) {
	for _, d := range []api.Canopy{domeD(), even(5, 1, 2, 3), even(0, make([]int, 10)...)} {
		many := len(d.Ribs)
		for _, n := range []int{-1, math.MinInt, math.MaxInt} {
			wantErrors(t, "another force", ofGust(d, gust(n, 0)), api.ErrArg)
			wantErrors(t, "another rib", ofGust(d, gust(0, n)), api.ErrArg)
			wantErrors(t, "another rib", []answer{ofRib(d, n)}, api.ErrArg)
		}
		for _, g := range []api.Gust{gust(100, 0), gust(0, many), gust(-1, many-1), gust(99, many), gust(100, -1), gust(-1, -1), gust(0, many+many)} {
			wantErrors(t, "an invalid gust", ofGust(d, g), api.ErrArg)
			if g.At < 0 || g.At >= many {
				wantErrors(t, "an invalid rib", []answer{ofRib(d, g.At)}, api.ErrArg)
			}
			// before, between and behind others, that are stood or not
			for _, class := range [][]api.Gust{class(g), class(g, gust(99, 0)), class(gust(99, 0), g), class(gust(0, 0), g, gust(0, 0)), class(g, g)} {
				wantErrors(t, "an invalid gust", ofClass(d, class), api.ErrArg)
			}
		}
		for _, x := range allOf(d, gust(99, many-1)) {
			if x.e != api.OK && x.e != api.ErrNone {
				t.Errorf("%s of the last rib: error %d", x.name, x.e)
			}
		}
	}
}

func TestP1TooManyGusts(t *testing.T) {
	for name, g := range map[string]api.Gust{"without force": gust(0, 0), "not stood": gust(99, 5), "invalid": gust(-1, 9)} {
		for _, many := range []int{21, 22, 500} {
			wantErrors(t, name, ofClass(domeD(), slices.Repeat(class(g), many)), api.ErrArg)
		}
	}
	for _, x := range ofClass(domeD(), slices.Repeat(class(gust(99, 5)), 20)) {
		if x.e != api.OK {
			t.Errorf("%s of 20 gusts: error %d", x.name, x.e)
		}
	}
	// the last gust counts as the others do
	late := append(slices.Repeat(class(gust(0, 0)), 19), gust(99, 5))
	if n, _, e := gusts.First(domeD(), late); n != 19 || e != api.OK {
		t.Errorf("First = %d, error %d", n, e)
	}
	late[19].At = 6
	wantErrors(t, "the last one", ofClass(domeD(), late), api.ErrArg)
}

func TestP1NoFirst(t *testing.T) {
	for _, class := range [][]api.Gust{nil, {}, class(gust(0, 0)), class(gust(12, 0), gust(5, 3))} {
		all := ofClass(domeD(), class)
		wantErrors(t, "surely stood", all[1:3], api.ErrNone)
		if all[0].e != api.OK || all[3].e != api.OK {
			t.Errorf("Stands: error %d, Weak: error %d", all[0].e, all[3].e)
		}
	}
}

// Arguments stay as they are, results are new memory, and the same is returned each time.
func TestP1Memory(t *testing.T) {
	x := newRandom(3)
	drawn, _ := x.dome(sizes()["large"])
	for _, d := range []api.Canopy{domeD(), even(5, 9, 9, 9, 9), drawn} {
		for _, g := range []api.Gust{gust(14, 0), gust(99, 2), gust(0, 1)} {
			before, first := copied(d), allOf(d, g)
			for _, x := range allOf(d, g) {
				switch list := x.value.(type) {
				case []int:
					clear(list[:cap(list)])
				case []api.Span:
					clear(list[:cap(list)])
				}
			}
			if !reflect.DeepEqual(d, before) {
				t.Errorf("%v became %v", before, d)
			}
			if again := allOf(d, g); !reflect.DeepEqual(first, again) {
				t.Errorf("%v: %v, then %v", before, first, again)
			}
		}
	}
	// both lists of Goes are lists of their own
	sure, may, _ := gusts.Goes(domeD(), gust(20, 0))
	clear(sure)
	if !slices.Equal(may, []int{0, 1, 2, 3, 4, 5}) {
		t.Errorf("Goes = %v", may)
	}
}

// The gusts of a class stay as they are, and in their order.
func TestP1Class(t *testing.T) {
	all := class(gust(14, 5), gust(3, 2), gust(20, 3), gust(14, 0))
	was := slices.Clone(all)
	ofClass(domeD(), all)
	if !slices.Equal(all, was) {
		t.Errorf("%v became %v", was, all)
	}
}

// The capacity of lists does not matter, and nothing behind their ends is changed.
func TestP1Capacity(t *testing.T) {
	d := domeD()
	want := allOf(d, gust(14, 0))
	ribs, shares := append(d.Ribs, span(77, 78)), append(d.Shares, 87)
	d.Ribs, d.Shares = ribs[:6], shares[:6]
	if !reflect.DeepEqual(allOf(d, gust(14, 0)), want) {
		t.Errorf("%v; want %v", allOf(d, gust(14, 0)), want)
	}
	if ribs[6] != span(77, 78) || shares[6] != 87 {
		t.Errorf("%v, %v", ribs, shares)
	}
}
