package gusts_test

import (
	"slices"
	"testing"

	"ferrule/api"
	"ferrule/gusts"
)

func span(low, high int) api.Span { return api.Span{Low: low, High: high} }

func section(arm, stretch api.Span, base int, gear api.Frac) api.Section {
	return api.Section{Arm: arm, Stretch: stretch, Base: base, Gear: gear}
}

func gust(force, at int) api.Gust { return api.Gust{Force: force, At: at} }

func class(all ...api.Gust) []api.Gust { return all }

// frameF is the frame F of the chapter 1.
func frameF() api.Frame {
	return api.Frame{
		Sections: []api.Section{
			section(span(50, 52), span(60, 60), 0, api.Frac{Num: 1, Den: 1}),
			section(span(40, 40), span(45, 46), 5, api.Frac{Num: 1, Den: 2}),
		},
		Low: 20, High: 100, Ease: api.Frac{Num: 1, Den: 20}, Rod: 300, Case: 351,
	}
}

// domeD is the dome D of the chapter's examples.
func domeD() api.Canopy {
	return api.Canopy{
		Frame:  frameF(),
		Ribs:   []api.Span{span(100, 110), span(60, 60), span(50, 55), span(40, 40), span(50, 50), span(60, 60)},
		Shares: []int{10, 6, 3, 1, 3, 6},
	}
}

// dome is D with something else in it.
func dome(change func(d *api.Canopy)) api.Canopy {
	d := domeD()
	change(&d)
	return d
}

// single is a frame of one section at one position.
func single(arm, stretch api.Span, low int) api.Frame {
	return api.Frame{
		Sections: []api.Section{section(arm, stretch, 0, api.Frac{Num: 1, Den: 1})},
		Low:      low, High: low, Ease: api.Frac{Num: 0, Den: 1},
	}
}

// level is a frame with the lift 100: its arm stands at a right angle to the rod.
func level() api.Frame { return single(span(30, 30), span(50, 50), 40) }

// loaded is a dome on which a gust of the force 1 that meets the rib 0 puts these loads.
func loaded(loads []int, strengths ...api.Span) api.Canopy {
	return api.Canopy{Frame: level(), Ribs: strengths, Shares: loads}
}

// exactly are spans of one number each.
func exactly(numbers ...int) []api.Span {
	var all []api.Span
	for _, n := range numbers {
		all = append(all, span(n, n))
	}
	return all
}

// even is a dome of which all is known, with the same strength of all ribs.
func even(strength int, loads ...int) api.Canopy {
	return loaded(loads, slices.Repeat(exactly(strength), len(loads))...)
}

func withFrame(f api.Frame) api.Canopy { return dome(func(d *api.Canopy) { d.Frame = f }) }

// lifted is a frame, and its lift.
type lifted struct {
	frame api.Frame
	lift  api.Span
}

func lifteds() []lifted {
	one := func(arm, stretch, low, lift int) lifted {
		return lifted{single(span(arm, arm), span(stretch, stretch), low), span(lift, lift)}
	}
	return []lifted{
		{frameF(), span(65, 76)},
		// cosines of 0, 1 / 2, -1 / 2, and 1 / 6
		one(30, 50, 40, 100), one(30, 30, 30, 150), one(30, 70, 50, 50), one(60, 60, 20, 116),
		// those a little below 0 are rounded towards less: -101 / 2400, -44 / 4100, and -1 / 216
		one(30, 51, 40, 95), one(41, 65, 50, 98), one(6, 19, 18, 99),
		// and those a little above it too: 1 / 1000, and 99 / 2400
		one(40, 64, 50, 100), one(30, 49, 40, 104),
		// just below the cosine 1, at it, and beyond it
		one(30, 11, 40, 199), one(30, 10, 40, 200), one(30, 30, 60, 200), one(30, 9, 40, 200), one(30, 30, 90, 200), one(1, 1, 2000, 200),
		// just above the cosine -1, at it, and beyond it
		one(30, 69, 40, 5), one(30, 70, 40, 0), one(30, 71, 40, 0), one(30, 90, 40, 0), one(1, 2000, 1, 0),
		// spans, also beyond both ends; of the arms 3 to 9, 6 has the least cosine
		{single(span(1, 7), span(1, 7), 4), span(0, 200)}, {single(span(30, 30), span(66, 72), 40), span(0, 22)},
		{single(span(3, 3), span(5, 7), 4), span(0, 100)}, {single(span(3, 9), span(8, 8), 10), span(160, 175)},
		{single(span(3, 6), span(8, 8), 10), span(160, 175)}, {single(span(7, 9), span(8, 8), 10), span(160, 165)},
	}
}

func TestP5_2Lift(t *testing.T) {
	for i, x := range lifteds() {
		if s, e := gusts.Lift(withFrame(x.frame)); s != x.lift || e != api.OK {
			t.Errorf("%d: Lift = %v, error %d; want %v", i, s, e, x.lift)
		}
	}
}

// elsewhere are changes of the frame F that do not matter for the lift.
func elsewhere() map[string]func(f *api.Frame) {
	return map[string]func(f *api.Frame){
		"High":                     func(f *api.Frame) { f.High = 150 },
		"High as Low":              func(f *api.Frame) { f.High = f.Low },
		"Ease":                     func(f *api.Frame) { f.Ease = api.Frac{Num: 1, Den: 1} },
		"Rod":                      func(f *api.Frame) { f.Rod = 0 },
		"Case":                     func(f *api.Frame) { f.Case = 4000 },
		"a section less":           func(f *api.Frame) { f.Sections = f.Sections[:1] },
		"a section more":           func(f *api.Frame) { f.Sections = append(f.Sections, f.Sections[1]) },
		"the second section":       func(f *api.Frame) { f.Sections[1].Arm, f.Sections[1].Stretch = span(1, 2), span(1999, 2000) },
		"Base of the first":        func(f *api.Frame) { f.Sections[0].Base = 99 },
		"Gear of the first":        func(f *api.Frame) { f.Sections[0].Gear = api.Frac{Num: 0, Den: 3} },
		"no distance of the other": func(f *api.Frame) { f.Sections[1].Base, f.Sections[1].Gear = 0, api.Frac{Num: 0, Den: 1} },
	}
}

func TestP5_2TheFirstSectionAlone(t *testing.T) {
	for name, change := range elsewhere() {
		d := domeD()
		change(&d.Frame)
		if s, e := gusts.Lift(d); s != span(65, 76) || e != api.OK {
			t.Errorf("%s: Lift = %v, error %d", name, s, e)
		}
	}
	d := dome(func(d *api.Canopy) { d.Frame.Low = 21 })
	if s, e := gusts.Lift(d); s != span(68, 79) || e != api.OK {
		t.Errorf("at 21: Lift = %v, error %d", s, e)
	}
}

func TestP5_3Loads(t *testing.T) {
	d := domeD()
	most := dome(func(d *api.Canopy) {
		d.Frame, d.Shares = single(span(30, 30), span(30, 30), 60), []int{99, 98, 0, 1, 50, 7}
	})
	none := withFrame(single(span(30, 30), span(70, 70), 40))
	ten := even(1, 9, 8, 7, 6, 5, 4, 3, 2, 1, 0)
	for i, x := range []struct {
		d    api.Canopy
		g    api.Gust
		want []api.Span
	}{
		{d, gust(14, 0), []api.Span{span(91, 106), span(54, 63), span(27, 31), span(9, 10), span(27, 31), span(54, 63)}},
		{d, gust(14, 2), []api.Span{span(27, 31), span(54, 63), span(91, 106), span(54, 63), span(27, 31), span(9, 10)}},
		{d, gust(14, 5), []api.Span{span(54, 63), span(27, 31), span(9, 10), span(27, 31), span(54, 63), span(91, 106)}},
		// rounded down but once
		{d, gust(1, 0), []api.Span{span(6, 7), span(3, 4), span(1, 2), span(0, 0), span(1, 2), span(3, 4)}},
		{d, gust(0, 3), exactly(0, 0, 0, 0, 0, 0)},
		{most, gust(99, 0), exactly(19602, 19404, 0, 198, 9900, 1386)},
		{most, gust(99, 1), exactly(1386, 19602, 19404, 0, 198, 9900)},
		{most, gust(1, 3), exactly(2, 100, 14, 198, 196, 0)},
		{none, gust(99, 0), exactly(0, 0, 0, 0, 0, 0)},
		// the shares are counted from the rib that the gust meets first, around the ring
		{even(1, 7, 5, 3), gust(10, 0), exactly(70, 50, 30)},
		{even(1, 7, 5, 3), gust(10, 1), exactly(30, 70, 50)},
		{even(1, 7, 5, 3), gust(10, 2), exactly(50, 30, 70)},
		{ten, gust(1, 0), exactly(9, 8, 7, 6, 5, 4, 3, 2, 1, 0)},
		{ten, gust(2, 4), exactly(6, 4, 2, 0, 18, 16, 14, 12, 10, 8)},
		{ten, gust(1, 9), exactly(8, 7, 6, 5, 4, 3, 2, 1, 0, 9)},
	} {
		if l, e := gusts.Loads(x.d, x.g); !slices.Equal(l, x.want) || e != api.OK {
			t.Errorf("%d: Loads of %v = %v, error %d; want %v", i, x.g, l, e, x.want)
		}
	}
}

// gone is a dome, a gust, and the ribs that go.
type gone struct {
	d         api.Canopy
	g         api.Gust
	sure, may []int
}

// surelyGone is one of which all is known, against the gust of the force 1 that meets the rib 0.
func surelyGone(loads, strengths []int, ribs ...int) gone {
	return gone{loaded(loads, exactly(strengths...)...), gust(1, 0), ribs, ribs}
}

func gones() []gone {
	all := []int{0, 1, 2, 3, 4, 5}
	firm := 99
	return []gone{
		{domeD(), gust(12, 0), nil, nil}, {domeD(), gust(13, 0), nil, nil}, {domeD(), gust(14, 0), nil, all}, {domeD(), gust(20, 0), all, all},
		// a load that is as great as the strength is not above it
		surelyGone([]int{10, 10, 10}, []int{10, 10, 10}), surelyGone([]int{10, 10, 10}, []int{9, 9, 9}, 0, 1, 2),
		surelyGone([]int{0, 0, 0}, []int{0, 0, 0}), surelyGone([]int{1, 0, 0}, []int{0, 0, 1}, 0),
		{even(0, 99, 99, 99), gust(0, 1), nil, nil},
		// what is handed on must be above the strength, too
		surelyGone([]int{10, 1, 1, 1}, []int{9, 6, firm, firm}, 0), surelyGone([]int{10, 1, 1, 1}, []int{9, 5, firm, firm}, 0, 1),
		surelyGone([]int{10, 1, 1, 1}, []int{9, firm, firm, 6}, 0), surelyGone([]int{10, 1, 1, 1}, []int{9, firm, firm, 5}, 0, 3),
		surelyGone([]int{1, 1, 1, 10}, []int{5, firm, firm, 9}, 0, 3), surelyGone([]int{1, 1, 1, 10}, []int{6, firm, 5, 9}, 2, 3),
		// the own load of those that are gone is handed on, not what these got
		surelyGone([]int{10, 1, 1, 1}, []int{9, 5, 6, firm}, 0, 1), surelyGone([]int{10, 1, 1, 1}, []int{9, 5, 5, firm}, 0, 1, 2),
		// the sums of both sides are halved each by itself
		surelyGone([]int{1, 5, 1, 5}, []int{5, 4, firm, 4}, 1, 3), surelyGone([]int{1, 5, 1, 5}, []int{4, 4, firm, 4}, 0, 1, 3),
		// the sum of one side is halved, and not each load of it
		surelyGone([]int{1, 5, 5, 1, 1}, []int{6, 4, 4, firm, firm}, 1, 2), surelyGone([]int{1, 5, 5, 1, 1}, []int{5, 4, 4, firm, firm}, 0, 1, 2),
		// nothing is handed beyond a rib that stands
		surelyGone([]int{1, 1, 50, 1, 1, 1}, []int{1, 26, firm, 26, 1, 1}),
		surelyGone([]int{1, 1, 50, 1, 1, 1}, []int{1, 26, 49, 26, 1, 1}, 2),
		surelyGone([]int{1, 1, 50, 1, 1, 1}, []int{25, 25, 49, 27, 27, 26}, 0, 1, 2, 5),
		surelyGone([]int{1, 1, 50, 1, 1, 1}, []int{26, 25, 49, 26, 1, 1}, 1, 2),
		// two ribs stand: each one has the ribs on either side of it
		surelyGone([]int{20, 8, 30, 8}, []int{19, 33, 29, 33}, 0, 2), surelyGone([]int{20, 8, 30, 8}, []int{19, 32, 29, 66}, 0, 1, 2),
		surelyGone([]int{20, 8, 30, 9, 1, 9}, []int{19, 37, 29, 23, 34, 42}, 0, 2, 3), surelyGone([]int{20, 8, 30, 9, 1, 9}, []int{19, 36, 29, 23, 34, 42}, 0, 1, 2, 3),
		// a rib that stands alone has all others on both sides
		surelyGone([]int{50, 10, 10}, []int{49, 34, 70}, 0, 1), surelyGone([]int{50, 10, 10}, []int{49, 34, 69}, 0, 1, 2),
		surelyGone([]int{50, 11, 10}, []int{49, 34, 70}, 0, 1), surelyGone([]int{10, 50, 11}, []int{70, 49, 34}, 1, 2),
		surelyGone([]int{11, 10, 50}, []int{34, 69, 49}, 0, 1, 2),
		// a strength that is not known, with the lift 100
		{loaded([]int{10, 1, 1}, span(9, 10), span(9, 9), span(9, 9)), gust(1, 0), nil, []int{0}},
		{loaded([]int{10, 1, 1}, span(8, 9), span(5, 6), span(7, 7)), gust(1, 0), []int{0}, []int{0, 1, 2}},
		{loaded([]int{10, 1, 1}, span(0, 9), span(0, 5), span(11, 12)), gust(1, 0), []int{0, 1}, []int{0, 1}},
		{loaded([]int{10, 1, 1}, span(0, 9), span(0, 5), span(10, 12)), gust(1, 0), []int{0, 1}, []int{0, 1, 2}},
		// against any rib, around the ring
		{domeD(), gust(14, 1), all, all}, {domeD(), gust(5, 3), nil, nil}, {domeD(), gust(6, 3), nil, []int{3}}, {domeD(), gust(7, 3), []int{3}, all},
	}
}

func TestP5_4Goes(t *testing.T) {
	for i, x := range gones() {
		sure, may, e := gusts.Goes(x.d, x.g)
		if !slices.Equal(sure, x.sure) || !slices.Equal(may, x.may) || e != api.OK {
			t.Errorf("%d: Goes = %v, %v, error %d; want %v, %v", i, sure, may, e, x.sure, x.may)
		}
	}
}

const (
	surely  = api.Surely
	never   = api.Never
	perhaps = api.Perhaps
)

// none is the gust that First returns if there is none.
const none = -1

// stood is a dome, a class, and what is known of both.
type stood struct {
	d      api.Canopy
	class  []api.Gust
	stands int
	first  int
	ribs   []int
	weak   []int
}

func stoods() []stood {
	d := domeD()
	all := []int{0, 1, 2, 3, 4, 5}
	// the rib 0 surely goes, the rib 2 can go at once, and the rib 1 behind them
	chain := loaded([]int{10, 5, 7, 1, 1}, span(8, 9), span(9, 10), span(6, 7), span(50, 50), span(50, 50))
	return []stood{
		{d, nil, surely, none, nil, nil},
		{d, class(gust(12, 0)), surely, none, nil, nil},
		{d, class(gust(12, 0), gust(14, 0)), perhaps, 1, []int{0, 1, 5}, []int{0, 1, 5}},
		{d, class(gust(12, 0), gust(14, 0), gust(20, 3)), never, 1, []int{0, 1, 5}, all},
		{d, class(gust(20, 3)), never, 0, []int{2, 3, 4}, []int{2, 3, 4}},
		{d, class(gust(20, 3), gust(12, 0), gust(14, 0)), never, 0, []int{2, 3, 4}, all},
		{d, class(gust(5, 3)), surely, none, nil, nil},
		{d, class(gust(6, 3)), perhaps, 0, []int{3}, []int{3}},
		{d, class(gust(7, 3)), never, 0, []int{3}, []int{3}},
		{d, class(gust(0, 5), gust(0, 4), gust(6, 3), gust(6, 3)), perhaps, 2, []int{3}, []int{3}},
		{d, slices.Repeat(class(gust(13, 0)), 20), surely, none, nil, nil},
		{d, append(slices.Repeat(class(gust(13, 0)), 19), gust(14, 0)), perhaps, 19, []int{0, 1, 5}, []int{0, 1, 5}},
		// only those that go in the first round, and only those of the first gust
		{chain, class(gust(1, 0)), never, 0, []int{0, 2}, []int{0, 2}},
		{chain, class(gust(1, 1)), perhaps, 0, []int{1}, []int{1}},
		{chain, class(gust(0, 0), gust(1, 1), gust(1, 0)), never, 1, []int{1}, []int{0, 1, 2}},
		{chain, class(gust(1, 3)), surely, none, nil, nil},
		// each gust meets the whole dome anew
		{loaded([]int{10, 0, 0}, exactly(9, 9, 9)...), class(gust(1, 0), gust(1, 1), gust(1, 2)), never, 0, []int{0}, []int{0, 1, 2}},
		{loaded([]int{10, 0, 0}, exactly(10, 10, 10)...), class(gust(1, 0), gust(1, 1), gust(1, 2)), surely, none, nil, nil},
		// one that is stood perhaps does not matter beside one that never is
		{loaded([]int{10, 0, 0}, span(9, 10), span(9, 10), span(8, 9)), class(gust(1, 0), gust(1, 1)), perhaps, 0, []int{0}, []int{0, 1}},
		{loaded([]int{10, 0, 0}, span(9, 10), span(9, 10), span(8, 9)), class(gust(1, 0), gust(1, 2)), never, 0, []int{0}, []int{0, 2}},
	}
}

func TestP5_5Stands(t *testing.T) {
	for i, x := range stoods() {
		if n, e := gusts.Stands(x.d, x.class); n != x.stands || e != api.OK {
			t.Errorf("%d: Stands = %d, error %d; want %d", i, n, e, x.stands)
		}
	}
}

func TestP5_6First(t *testing.T) {
	for i, x := range stoods() {
		number, want := x.first, api.OK
		if x.first == none {
			number, want = 0, api.ErrNone
		}
		if n, ribs, e := gusts.First(x.d, x.class); n != number || !slices.Equal(ribs, x.ribs) || e != want {
			t.Errorf("%d: First = %d, %v, error %d; want %d, %v, error %d", i, n, ribs, e, number, x.ribs, want)
		}
	}
}

func TestP5_8Weak(t *testing.T) {
	for i, x := range stoods() {
		if ribs, e := gusts.Weak(x.d, x.class); !slices.Equal(ribs, x.weak) || e != api.OK {
			t.Errorf("%d: Weak = %v, error %d; want %v", i, ribs, e, x.weak)
		}
	}
}

func TestP5_7Most(t *testing.T) {
	half := func(d api.Canopy) api.Canopy {
		d.Frame = single(span(30, 30), span(70, 70), 50)
		return d
	}
	flat := even(0, 99, 99, 99)
	flat.Frame = single(span(30, 30), span(70, 70), 40)
	for i, x := range []struct {
		d        api.Canopy
		at, want int
	}{
		{domeD(), 0, 13}, {domeD(), 3, 5},
		{even(99999, 99, 99, 99), 0, 99}, {even(0, 0, 0, 0), 1, 99},
		{even(0, 1, 1, 1), 0, 0}, {even(0, 1, 0, 0), 2, 0}, {even(99, 10, 1, 1), 2, 9}, {even(100, 10, 1, 1), 2, 10}, {even(99, 1, 1, 1), 0, 99}, {even(98, 1, 1, 1), 0, 98},
		// half of a load is rounded down
		{half(even(0, 1, 1, 1)), 0, 1}, {half(even(0, 2, 1, 1)), 0, 0}, {half(even(10, 1, 0, 1)), 1, 21},
		// each rib has its own share, by the rib that the gust meets first
		{loaded([]int{9, 1, 1}, exactly(90, 45, 18)...), 0, 10}, {loaded([]int{9, 1, 1}, exactly(90, 45, 18)...), 1, 5}, {loaded([]int{9, 1, 1}, exactly(90, 45, 18)...), 2, 2},
		// the least strength counts
		{loaded([]int{9, 1, 1}, span(26, 99), span(99, 99), span(99, 99)), 0, 2},
		{loaded([]int{9, 1, 1}, span(27, 99), span(3, 99), span(4, 99)), 0, 3},
		{loaded([]int{9, 1, 1}, span(27, 99), span(2, 99), span(1, 99)), 0, 1},
		// without a lift no force takes a rib
		{flat, 2, 99},
	} {
		if n, e := gusts.Most(x.d, x.at); n != x.want || e != api.OK {
			t.Errorf("%d: Most of %d = %d, error %d; want %d", i, x.at, n, e, x.want)
		}
	}
}
