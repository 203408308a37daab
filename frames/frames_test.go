package frames_test

import (
	"slices"
	"testing"

	"ferrule/api"
	"ferrule/frames"
)

func span(low, high int) api.Span { return api.Span{Low: low, High: high} }

func frac(num, den int) api.Frac { return api.Frac{Num: num, Den: den} }

func section(arm, stretch api.Span, base int, gear api.Frac) api.Section {
	return api.Section{Arm: arm, Stretch: stretch, Base: base, Gear: gear}
}

// single is a frame of one section.
func single(arm, stretch api.Span, low, high int, ease api.Frac) api.Frame {
	return api.Frame{Sections: []api.Section{section(arm, stretch, 0, frac(1, 1))}, Low: low, High: high, Ease: ease}
}

// frameF is the frame F of the chapter's examples, with another High.
func frameF(high int) api.Frame {
	return api.Frame{
		Sections: []api.Section{
			section(span(50, 52), span(60, 60), 0, frac(1, 1)),
			section(span(40, 40), span(45, 46), 5, frac(1, 2)),
		},
		Low: 20, High: high, Ease: frac(1, 20), Rod: 300, Case: 351,
	}
}

// changed is F with something else in it.
func changed(change func(f *api.Frame)) api.Frame {
	f := frameF(100)
	change(&f)
	return f
}

// threefold is a valid frame with as many sections as there can be.
func threefold() api.Frame {
	return changed(func(f *api.Frame) {
		f.Sections = append(f.Sections, section(span(30, 36), span(33, 35), 7, frac(2, 3)))
	})
}

func wantKnown(t *testing.T, what string, got int, e api.Errno, want int) {
	t.Helper()
	if got != want || e != api.OK {
		t.Errorf("%s = %d, error %d; want %d", what, got, e, want)
	}
}

func TestP1_2Distance(t *testing.T) {
	three := threefold()
	same := changed(func(f *api.Frame) { f.Sections[0].Base, f.Sections[0].Gear = 70, frac(1, 3) })
	still := changed(func(f *api.Frame) { f.Sections[1].Base, f.Sections[1].Gear = 8, frac(0, 3) })
	longest := api.Frame{
		Sections: slices.Repeat([]api.Section{section(span(9, 9), span(9, 9), 2000, frac(20, 20))}, 3),
		Low:      1800, High: 2000, Ease: frac(0, 1),
	}
	for i, x := range []struct {
		f                api.Frame
		section, r, want int
	}{
		{frameF(100), 0, 20, 20}, {frameF(100), 0, 57, 57}, {frameF(100), 0, 100, 100},
		{frameF(100), 1, 20, 15}, {frameF(100), 1, 100, 55},
		// half of 21 is rounded down, and the Base is not divided
		{frameF(100), 1, 21, 15}, {frameF(100), 1, 22, 16}, {frameF(100), 1, 99, 54},
		// each section follows the one before it, as it was rounded
		{three, 2, 20, 17}, {three, 2, 21, 17}, {three, 2, 22, 17}, {three, 2, 24, 18}, {three, 2, 100, 43},
		// Base and Gear of the first section do not matter
		{same, 0, 33, 33}, {same, 1, 33, 21},
		{still, 1, 20, 8}, {still, 1, 100, 8},
		{longest, 0, 2000, 2000}, {longest, 1, 2000, 4000}, {longest, 2, 2000, 6000}, {longest, 2, 1800, 5800},
	} {
		if d, e := frames.Distance(x.f, x.section, x.r); d != x.want || e != api.OK {
			t.Errorf("%d: Distance = %d, error %d; want %d", i, d, e, x.want)
		}
	}
}

func TestP1_3Cosine(t *testing.T) {
	still := changed(func(f *api.Frame) {
		f.Sections[1].Base, f.Sections[1].Gear, f.Low = 0, frac(1, 20), 10
	})
	longest := changed(func(f *api.Frame) {
		f.Sections[0] = section(span(1994, 2000), span(1994, 2000), 0, frac(0, 1))
		f.Low, f.High = 1800, 2000
	})
	for i, x := range []struct {
		f          api.Frame
		section, r int
		low, high  api.Frac
	}{
		{frameF(100), 0, 100, frac(569, 650), frac(89, 100)},
		{frameF(100), 0, 20, frac(-7, 20), frac(-31, 130)},
		{frameF(100), 1, 20, frac(-97, 400), frac(-1, 6)},
		{frameF(100), 1, 21, frac(-97, 400), frac(-1, 6)},
		// no common divisor, Den above 0, and 0 is 0 / 1
		{single(span(30, 30), span(50, 50), 40, 40, frac(0, 1)), 0, 40, frac(0, 1), frac(0, 1)},
		{single(span(30, 30), span(30, 30), 60, 60, frac(0, 1)), 0, 60, frac(1, 1), frac(1, 1)},
		{single(span(10, 10), span(40, 40), 30, 30, frac(0, 1)), 0, 30, frac(-1, 1), frac(-1, 1)},
		// there need not be such a triangle
		{single(span(1, 1), span(2000, 2000), 1, 1, frac(0, 1)), 0, 1, frac(-1999999, 1), frac(-1999999, 1)},
		{single(span(10, 10), span(1, 1), 200, 200, frac(0, 1)), 0, 200, frac(40099, 4000), frac(40099, 4000)},
		// the least cosine is that of an arm in the middle: 4 of 2 to 8
		{single(span(2, 8), span(3, 3), 5, 5, frac(0, 1)), 0, 5, frac(4, 5), frac(1, 1)},
		// and the greatest one that of an end of the span
		{single(span(3, 9), span(3, 3), 5, 5, frac(0, 1)), 0, 5, frac(4, 5), frac(97, 90)},
		{single(span(50, 52), span(60, 62), 20, 20, frac(0, 1)), 0, 20, frac(-59, 125), frac(-31, 130)},
		{still, 1, 20, frac(-103, 16), frac(-53, 10)},
		{longest, 0, 2000, frac(997, 2000), frac(1005991, 2000000)},
	} {
		low, high, e := frames.Cosine(x.f, x.section, x.r)
		if low != x.low || high != x.high || e != api.OK {
			t.Errorf("%d: Cosine = %v, %v, error %d; want %v, %v", i, low, high, e, x.low, x.high)
		}
	}
	for _, r := range []int{10, 19} {
		if low, high, e := frames.Cosine(still, 1, r); low != (api.Frac{}) || high != (api.Frac{}) || e != api.ErrNone {
			t.Errorf("Cosine at the distance 0 = %v, %v, error %d", low, high, e)
		}
	}
}

func TestP1_4Binds(t *testing.T) {
	still := changed(func(f *api.Frame) {
		f.Sections[1].Base, f.Sections[1].Gear, f.Low = 0, frac(1, 20), 10
	})
	half, none := frac(1, 2), frac(0, 1)
	five, three := span(5, 5), span(3, 3)
	for i, x := range []struct {
		f          api.Frame
		section, r int
		want       int
	}{
		{frameF(120), 0, 120, api.Surely}, {frameF(106), 0, 106, api.Perhaps}, {frameF(106), 0, 105, api.Never},
		// a distance of 0 binds, and with a small one there is no triangle
		{still, 1, 10, api.Surely}, {still, 1, 19, api.Surely}, {still, 1, 20, api.Surely},
		// with an Ease of 1 each cosine is at least 0 or at most 0
		{single(span(30, 30), span(50, 50), 40, 40, frac(1, 1)), 0, 40, api.Surely},
		{single(span(30, 30), span(50, 50), 40, 40, frac(20, 20)), 0, 40, api.Surely},
		{single(span(30, 36), span(47, 50), 39, 41, frac(3, 3)), 0, 41, api.Surely},
		{single(span(30, 30), span(50, 50), 40, 40, frac(19, 20)), 0, 40, api.Never},
		// a cosine of just 1 - Ease binds (4 / 5), one a little below does not
		{single(span(4, 4), three, 5, 5, frac(1, 5)), 0, 5, api.Surely},
		{single(span(4, 4), three, 5, 5, frac(4, 20)), 0, 5, api.Surely},
		{single(span(4, 4), three, 5, 5, frac(3, 20)), 0, 5, api.Never},
		// so does one of just Ease - 1 (-1 / 2 of 3, 5 and 7)
		{single(five, span(7, 7), 3, 3, half), 0, 3, api.Surely},
		{single(five, span(7, 7), 3, 3, frac(9, 19)), 0, 3, api.Never},
		// without Ease a flat triangle binds on both sides
		{single(five, three, 8, 8, none), 0, 8, api.Surely}, {single(five, three, 2, 2, none), 0, 2, api.Surely},
		{single(five, span(8, 8), 3, 3, none), 0, 3, api.Surely},
		{single(five, three, 7, 7, none), 0, 7, api.Never}, {single(five, three, 3, 3, none), 0, 3, api.Never},
		{single(five, span(7, 7), 3, 3, none), 0, 3, api.Never},
		// and so do lengths that are no triangle
		{single(five, three, 9, 9, none), 0, 9, api.Surely}, {single(five, three, 1, 1, none), 0, 1, api.Surely},
		{single(five, span(9, 9), 3, 3, none), 0, 3, api.Surely},
		// some of the sides bind: those that are too short, those that are too long, or both
		{single(five, span(3, 4), 8, 8, none), 0, 8, api.Perhaps},
		{single(five, span(7, 8), 3, 3, none), 0, 3, api.Perhaps},
		{single(five, span(1, 7), 4, 4, none), 0, 4, api.Perhaps},
		{single(five, span(2, 8), 4, 4, none), 0, 4, api.Never},
		{single(span(5, 6), three, 8, 8, none), 0, 8, api.Perhaps},
		// the arm in the middle alone does not bind
		{single(span(2, 8), three, 5, 5, frac(3, 20)), 0, 5, api.Perhaps},
		{single(span(2, 8), three, 5, 5, frac(1, 5)), 0, 5, api.Surely},
		// some sides bind at one end and all others at the other one
		{single(span(1, 1), span(1, 2), 1, 1, half), 0, 1, api.Surely},
		{single(span(1, 1), span(1, 2), 1, 1, frac(9, 19)), 0, 1, api.Perhaps},
	} {
		n, e := frames.Binds(x.f, x.section, x.r)
		if n != x.want || e != api.OK {
			t.Errorf("%d: Binds = %d, error %d; want %d", i, n, e, x.want)
		}
	}
}

func TestP1_5First(t *testing.T) {
	small := section(span(5, 5), span(9, 9), 0, frac(1, 20))
	fails := func(f api.Frame, section, r int) {
		t.Helper()
		if n, at, e := frames.First(f); n != section || at != r || e != api.OK {
			t.Errorf("First = %d, %d, error %d; want %d, %d", n, at, e, section, r)
		}
	}
	fails(frameF(120), 0, 120)
	fails(frameF(106), 0, 106)
	// of two sections that bind at one position the first one is named
	fails(changed(func(f *api.Frame) { f.Ease = frac(20, 20) }), 0, 100)
	fails(changed(func(f *api.Frame) { f.Sections = append(f.Sections, small); f.High = 120 }), 0, 120)
	// of two positions the greater one, though a later section binds there
	fails(changed(func(f *api.Frame) {
		f.Sections = append(f.Sections, small)
		f.Low, f.Sections[0].Stretch = 5, span(66, 66)
	}), 2, 100)
	// a section that binds at the Low position alone: cosines of 3, 5 and 8 to 6, 5 and 8
	fails(single(span(5, 5), span(8, 8), 3, 6, frac(0, 1)), 0, 3)
	// the distance is 0 up to 19
	fails(api.Frame{
		Sections: []api.Section{
			section(span(50, 50), span(52, 52), 0, frac(1, 1)),
			section(span(5, 5), span(5, 5), 0, frac(1, 20)),
		},
		Low: 17, High: 25, Ease: frac(0, 1),
	}, 1, 19)
	for i, f := range []api.Frame{frameF(100), frameF(105), frameF(20), threefold()} {
		if n, r, e := frames.First(f); n != 0 || r != 0 || e != api.ErrNone {
			t.Errorf("%d: First = %d, %d, error %d", i, n, r, e)
		}
	}
}

// between is a frame of which each stretcher binds at some position, but
// different ones at different positions: none binds all of them.
func between() api.Frame {
	return single(span(50, 50), span(60, 66), 34, 42, frac(19, 20))
}

func TestP1_6Opens(t *testing.T) {
	for i, x := range []struct {
		f    api.Frame
		want int
	}{
		{frameF(100), api.Surely}, {frameF(105), api.Surely}, {frameF(20), api.Surely}, {threefold(), api.Surely},
		{frameF(106), api.Perhaps}, {frameF(120), api.Never}, {between(), api.Never},
		{changed(func(f *api.Frame) { f.Ease = frac(1, 1) }), api.Never},
		// it is the last section that can bind, and then does
		{changed(func(f *api.Frame) { f.Sections[1].Stretch = span(26, 27) }), api.Perhaps},
		{changed(func(f *api.Frame) { f.Sections[1].Stretch = span(26, 26) }), api.Never},
		// one binds always, and the other one perhaps
		{changed(func(f *api.Frame) { f.High, f.Sections[1].Stretch = 120, span(29, 30) }), api.Never},
		{changed(func(f *api.Frame) { f.High, f.Sections[1].Stretch = 106, span(26, 26) }), api.Never},
		// both bind perhaps
		{changed(func(f *api.Frame) { f.High, f.Sections[1].Stretch = 106, span(26, 27) }), api.Perhaps},
		// it binds at the Low position, or in between
		{single(span(5, 5), span(8, 8), 3, 6, frac(0, 1)), api.Never},
		{single(span(5, 5), span(7, 8), 3, 6, frac(0, 1)), api.Perhaps},
		{single(span(5, 5), span(7, 8), 4, 6, frac(0, 1)), api.Surely},
	} {
		n, e := frames.Opens(x.f)
		if n != x.want || e != api.OK {
			t.Errorf("%d: Opens = %d, error %d; want %d", i, n, e, x.want)
		}
	}
	for r := 34; r <= 42; r++ {
		n, e := frames.Binds(between(), 0, r)
		wantKnown(t, "Binds", n, e, api.Perhaps)
	}
}

func TestP1_7Turns(t *testing.T) {
	turning := func(stretch api.Span) api.Frame {
		return changed(func(f *api.Frame) { f.Sections[0].Arm, f.Sections[0].Stretch = span(60, 60), stretch })
	}
	// geared is a second section whose distances are its Base and a part of 20 to 40
	geared := func(base int, gear api.Frac, arm, stretch api.Span) api.Frame {
		return changed(func(f *api.Frame) { f.High, f.Sections[1] = 40, section(arm, stretch, base, gear) })
	}
	// begun is such a section whose distance is 0 first, and 1 then
	begun := geared(0, frac(1, 20), span(7, 7), span(5, 5))
	begun.Low, begun.High = 10, 25
	seven, five := span(7, 7), span(5, 5)
	for i, x := range []struct {
		f       api.Frame
		section int
		want    int
	}{
		{frameF(100), 0, api.Never}, {frameF(100), 1, api.Never}, {frameF(20), 0, api.Never},
		{turning(span(50, 50)), 0, api.Surely}, {turning(span(54, 60)), 0, api.Perhaps},
		{turning(span(56, 57)), 0, api.Perhaps}, {turning(span(56, 56)), 0, api.Surely},
		{turning(span(57, 57)), 0, api.Never},
		// only the last step to Low, or the first one from High, or none of them
		{single(five, span(4, 4), 2, 40, frac(0, 1)), 0, api.Surely},
		{single(five, span(4, 4), 3, 40, frac(0, 1)), 0, api.Never},
		{single(five, span(4, 4), 2, 3, frac(0, 1)), 0, api.Surely},
		{single(five, span(4, 4), 2, 2, frac(0, 1)), 0, api.Never},
		// the cosine of 2 is just that of 8 (5, 5, 3), but there is less between them
		{single(five, span(3, 3), 2, 8, frac(0, 1)), 0, api.Surely},
		// and that of 3 is just that of 4 (4, 4, 2)
		{single(span(4, 4), span(2, 2), 3, 4, frac(0, 1)), 0, api.Never},
		{single(span(4, 4), span(2, 2), 2, 4, frac(0, 1)), 0, api.Surely},
		// a distance of 0 has no cosine, and one that stays as it is does not turn
		{begun, 1, api.Never},
		{geared(0, frac(1, 20), seven, five), 1, api.Surely},
		{geared(0, frac(1, 20), seven, seven), 1, api.Never},
		{geared(0, frac(1, 19), seven, five), 1, api.Surely},
		{geared(0, frac(0, 1), seven, five), 1, api.Never},
		{geared(1, frac(0, 1), seven, five), 1, api.Never},
		{geared(2, frac(1, 20), seven, five), 1, api.Surely},
		{geared(4, frac(1, 20), seven, five), 1, api.Never},
	} {
		n, e := frames.Turns(x.f, x.section)
		if n != x.want || e != api.OK {
			t.Errorf("%d: Turns = %d, error %d; want %d", i, n, e, x.want)
		}
	}
}

func TestP1_8Blame(t *testing.T) {
	still := section(span(40, 40), span(45, 46), 0, frac(1, 20))
	for i, x := range []struct {
		f    api.Frame
		want []int
	}{
		{frameF(100), nil}, {frameF(106), nil}, {threefold(), nil}, {frameF(120), []int{0}},
		// each side binds at a position of its own
		{between(), []int{0}},
		{changed(func(f *api.Frame) { f.Ease = frac(1, 1) }), []int{0, 1}},
		{changed(func(f *api.Frame) { f.Sections[1] = still }), []int{1}},
		{changed(func(f *api.Frame) { f.Sections[1], f.High = still, 120 }), []int{0, 1}},
		{changed(func(f *api.Frame) { f.Sections, f.High = append(f.Sections, still), 120 }), []int{0, 2}},
		{changed(func(f *api.Frame) { f.Sections, f.High = append(f.Sections, still), 106 }), []int{2}},
		{changed(func(f *api.Frame) { f.Sections = append(f.Sections, f.Sections[1]); f.Ease = frac(7, 7) }), []int{0, 1, 2}},
	} {
		l, e := frames.Blame(x.f)
		if !slices.Equal(l, x.want) || e != api.OK {
			t.Errorf("%d: Blame = %v, error %d; want %v", i, l, e, x.want)
		}
	}
}

func TestP1_9Closes(t *testing.T) {
	boxed := func(room int, arms ...api.Span) api.Frame {
		f := threefold()
		f.Sections, f.Rod, f.Case = f.Sections[:len(arms)], 300, room
		for i, a := range arms {
			f.Sections[i].Arm = a
		}
		return f
	}
	for i, x := range []struct {
		f    api.Frame
		want int
	}{
		{frameF(100), api.Perhaps},
		{boxed(349, span(50, 52), span(40, 40)), api.Never},
		{boxed(350, span(50, 52), span(40, 40)), api.Perhaps},
		{boxed(351, span(50, 52), span(40, 40)), api.Perhaps},
		{boxed(352, span(50, 52), span(40, 40)), api.Surely},
		{boxed(0, span(50, 52), span(40, 40)), api.Never},
		{boxed(4000, span(50, 52), span(40, 40)), api.Surely},
		{boxed(349, span(50, 50)), api.Never}, {boxed(350, span(50, 50)), api.Surely},
		// the longest arm can be one of a later section, or of either
		{boxed(359, span(50, 52), span(60, 61)), api.Never},
		{boxed(360, span(50, 52), span(60, 61)), api.Perhaps},
		{boxed(361, span(50, 52), span(60, 61)), api.Surely},
		{boxed(350, span(46, 52), span(50, 51)), api.Perhaps},
		{boxed(351, span(46, 52), span(50, 51)), api.Perhaps},
		{boxed(349, span(46, 52), span(50, 51)), api.Never},
		{boxed(352, span(46, 52), span(50, 51)), api.Surely},
		{boxed(370, span(50, 52), span(60, 61), span(70, 70)), api.Surely},
		{boxed(369, span(50, 52), span(60, 61), span(70, 70)), api.Never},
	} {
		n, e := frames.Closes(x.f)
		if n != x.want || e != api.OK {
			t.Errorf("%d: Closes = %d, error %d; want %d", i, n, e, x.want)
		}
	}
	f := boxed(1, span(1, 1))
	f.Rod = 0
	n, e := frames.Closes(f)
	wantKnown(t, "Closes without a rod", n, e, api.Surely)
}
