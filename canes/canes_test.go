package canes_test

import (
	"slices"
	"testing"

	"ferrule/api"
	"ferrule/canes"
)

const (
	surely  = api.Surely
	never   = api.Never
	perhaps = api.Perhaps
)

// none is the number that a function returns if there is none.
const none = -1

func span(low, high int) api.Span { return api.Span{Low: low, High: high} }

func bent(by, low, high int) api.Bent { return api.Bent{By: by, Back: span(low, high)} }

func bends(all ...int) []int { return all }

// caneC is the cane C of the chapter's examples.
func caneC() api.Cane {
	return api.Cane{Spring: span(180, 220), Bents: []api.Bent{bent(50, 10, 10)}, Limit: 40, Tire: 10}
}

// cane is C with something else in it.
func cane(change func(c *api.Cane)) api.Cane {
	c := caneC()
	change(&c)
	return c
}

// exact is a cane of which all is known.
func exact(spring, limit, tire int) api.Cane {
	return api.Cane{Spring: span(spring, spring), Limit: limit, Tire: tire}
}

// loose is a cane of which some pieces were bent, and that can be bent to the limit each time.
func loose(low, high, wrong int, bents ...api.Bent) api.Cane {
	return api.Cane{Spring: span(low, high), Bents: bents, Wrong: wrong, Limit: api.MaxBend}
}

// fromTo are all numbers from low to high.
func fromTo(low, high int) []int {
	var all []int
	for n := low; n <= high; n++ {
		all = append(all, n)
	}
	return all
}

// sprung is a cane with its truths.
type sprung struct {
	c       api.Cane
	springs []int
}

func sprungs() []sprung {
	return []sprung{
		{caneC(), fromTo(200, 219)},
		{cane(func(c *api.Cane) { c.Bents = nil }), fromTo(180, 220)},
		{cane(func(c *api.Cane) { c.Wrong = 1 }), fromTo(180, 220)},
		{exact(0, 1, 0), fromTo(0, 0)}, {exact(500, 90, 90), fromTo(500, 500)},
		{loose(460, 500, 0), fromTo(460, 500)}, {loose(0, 40, 0), fromTo(0, 40)},
		// both ends of what a piece sprang back by are in it
		{loose(180, 220, 0, bent(50, 9, 10)), fromTo(180, 219)}, {loose(180, 220, 0, bent(50, 10, 11)), fromTo(200, 220)},
		{loose(180, 220, 0, bent(50, 0, 90)), fromTo(180, 220)},
		// by what it springs back is rounded down
		{loose(460, 500, 0, bent(90, 45, 45)), fromTo(500, 500)}, {loose(460, 500, 0, bent(90, 44, 44)), fromTo(489, 499)},
		{loose(460, 500, 0, bent(1, 0, 0)), fromTo(460, 500)}, {loose(0, 40, 0, bent(90, 3, 3)), fromTo(34, 40)},
		{loose(300, 340, 0, bent(3, 1, 1)), fromTo(334, 340)}, {loose(300, 340, 0, bent(3, 0, 0)), fromTo(300, 333)},
		// all pieces must agree
		{loose(180, 220, 0, bent(50, 10, 10), bent(90, 18, 18)), fromTo(200, 211)},
		{loose(180, 220, 0, bent(50, 10, 10), bent(90, 19, 19)), fromTo(212, 219)},
		// as many can be false as Wrong says, and these can be any ones
		{loose(180, 220, 1, bent(50, 10, 10), bent(90, 19, 19)), fromTo(200, 220)},
		{loose(180, 220, 1, bent(50, 9, 9), bent(50, 10, 10)), fromTo(180, 219)},
		{loose(180, 220, 1, bent(50, 9, 9), bent(50, 10, 10), bent(90, 18, 18)), fromTo(200, 211)},
		{loose(180, 220, 2, bent(50, 9, 9), bent(50, 10, 10), bent(90, 18, 18)), fromTo(180, 219)},
		{loose(180, 220, 2, bent(1, 1, 1), bent(1, 1, 1)), fromTo(180, 220)},
		{loose(180, 220, 2, slices.Repeat([]api.Bent{bent(50, 10, 10)}, 8)...), fromTo(200, 219)},
		{loose(180, 220, 1, bent(1, 1, 1), bent(50, 10, 10)), fromTo(200, 219)},
		// between truths there can be numbers that are none
		{loose(180, 220, 1, bent(50, 9, 9), bent(50, 11, 11)), append(fromTo(180, 199), 220)},
		// Limit and Tire do not matter
		{cane(func(c *api.Cane) { c.Limit, c.Tire = 1, 90 }), fromTo(200, 219)},
		// pieces that agree with no number
		{loose(180, 220, 0, bent(50, 10, 10), bent(50, 9, 9)), nil}, {loose(180, 220, 0, bent(90, 20, 90)), nil}, {loose(0, 0, 0, bent(90, 1, 90)), nil},
		{loose(180, 220, 1, bent(1, 1, 1), bent(1, 1, 1)), nil}, {loose(180, 220, 2, slices.Repeat([]api.Bent{bent(1, 1, 90)}, 3)...), nil},
	}
}

func TestP6_2Springs(t *testing.T) {
	for i, x := range sprungs() {
		want := api.OK
		if x.springs == nil {
			want = api.ErrNone
		}
		if l, e := canes.Springs(x.c); !slices.Equal(l, x.springs) || e != want {
			t.Errorf("%d: Springs = %v, error %d; want %v", i, l, e, x.springs)
		}
	}
}

// ended is a cane, bends, the angle after them, and how it fits wanted ones.
type ended struct {
	c     api.Cane
	bends []int
	after api.Span
	fits  map[api.Span]int
}

func endeds() []ended {
	gap := loose(180, 220, 1, bent(50, 9, 9), bent(50, 11, 11))
	return []ended{
		{caneC(), bends(40, 30), span(56, 56), map[api.Span]int{span(56, 56): surely, span(0, 540): surely, span(57, 540): never, span(0, 55): never}},
		{caneC(), bends(39), span(31, 32), map[api.Span]int{span(31, 31): perhaps, span(32, 32): perhaps, span(31, 32): surely, span(33, 40): never, span(0, 30): never, span(0, 31): perhaps, span(32, 540): perhaps}},
		{caneC(), nil, span(0, 0), map[api.Span]int{span(0, 0): surely, span(0, 9): surely, span(1, 1): never}},
		{caneC(), bends(40, 30, 20, 10), span(80, 80), map[api.Span]int{span(80, 80): surely, span(79, 79): never}},
		// it springs back after each bend by itself: 7 and 3 of 38 and 19, and not 11 of 57
		{caneC(), bends(38, 19), span(45, 47), map[api.Span]int{span(45, 46): perhaps, span(46, 47): perhaps, span(46, 46): never, span(45, 47): surely}},
		{exact(500, 90, 0), bends(3, 3, 90), span(49, 49), map[api.Span]int{span(49, 49): surely, span(48, 48): never}},
		{exact(500, 90, 0), bends(1), span(1, 1), nil},
		{exact(500, 90, 0), bends(90, 90, 90, 90, 90, 90), span(270, 270), nil},
		{exact(0, 90, 0), bends(90, 90, 90, 90, 90, 90), span(540, 540), map[api.Span]int{span(540, 540): surely, span(0, 539): never}},
		{exact(333, 90, 0), bends(3, 6, 9), span(3+5+7, 3+5+7), nil},
		{exact(334, 90, 0), bends(3, 6, 9), span(2+4+6, 2+4+6), nil},
		{loose(0, 40, 0), bends(90, 89, 50), span(221, 229), nil},
		// only truths count, on both sides of those that are none
		{gap, bends(50), span(39, 41), map[api.Span]int{span(40, 40): never, span(39, 39): perhaps, span(41, 41): perhaps, span(39, 41): surely}},
		{loose(180, 220, 0, bent(50, 10, 10)), bends(50), span(40, 40), map[api.Span]int{span(40, 40): surely}},
	}
}

func TestP6_3After(t *testing.T) {
	for i, x := range endeds() {
		if s, e := canes.After(x.c, x.bends); s != x.after || e != api.OK {
			t.Errorf("%d: After of %v = %v, error %d; want %v", i, x.bends, s, e, x.after)
		}
	}
}

func TestP6_4Fits(t *testing.T) {
	for i, x := range endeds() {
		for want, fits := range x.fits {
			if n, e := canes.Fits(x.c, x.bends, want); n != fits || e != api.OK {
				t.Errorf("%d: Fits of %v and %v = %d, error %d; want %d", i, x.bends, want, n, e, fits)
			}
		}
	}
}

// wanted is a cane, a wanted angle, and with how many bends it can be had; first
// are the bends with which it can be measured out, all of them.
type wanted struct {
	c                api.Cane
	want             api.Span
	fewest, measured int
	first            []int
}

func wanteds() []wanted {
	unsure := func(limit, tire int) api.Cane { return api.Cane{Spring: span(180, 220), Limit: limit, Tire: tire} }
	gap := loose(180, 220, 1, bent(50, 9, 9), bent(50, 11, 11))
	gap.Limit, gap.Tire = 50, 49
	return []wanted{
		{caneC(), span(31, 32), 1, 1, bends(39, 40)}, {caneC(), span(0, 5), 0, 0, nil}, {caneC(), span(0, 0), 0, 0, nil}, {caneC(), span(0, 540), 0, 0, nil},
		{caneC(), span(32, 32), 1, 1, bends(40)}, {caneC(), span(80, 80), 4, 4, bends(40)}, {caneC(), span(81, 81), none, none, nil}, {caneC(), span(81, 540), none, none, nil},
		{caneC(), span(540, 540), none, none, nil},
		// of a cane that does not spring back: the bends make up the angle, up to six ones
		{exact(0, 90, 0), span(540, 540), 6, 6, bends(90)}, {exact(0, 90, 0), span(539, 539), 6, 6, bends(89, 90)}, {exact(0, 90, 0), span(180, 180), 2, 2, bends(90)},
		{exact(0, 90, 0), span(181, 181), 3, 3, fromTo(1, 90)}, {exact(0, 90, 0), span(1, 1), 1, 1, bends(1)}, {exact(0, 90, 0), span(88, 99), 1, 1, bends(88, 89, 90)},
		{exact(0, 89, 0), span(535, 540), none, none, nil}, {exact(0, 89, 0), span(534, 540), 6, 6, bends(89)},
		// each bend makes it weaker, until none is possible
		{exact(0, 2, 1), span(3, 3), 2, 2, bends(2)}, {exact(0, 2, 1), span(4, 4), none, none, nil}, {exact(0, 5, 2), span(9, 9), 3, 3, bends(5)}, {exact(0, 5, 2), span(10, 10), none, none, nil},
		{exact(0, 1, 90), span(1, 1), 1, 1, bends(1)}, {exact(0, 1, 90), span(2, 2), none, none, nil}, {exact(0, 1, 0), span(6, 6), 6, 6, bends(1)}, {exact(0, 1, 0), span(7, 7), none, none, nil},
		{exact(0, 90, 89), span(91, 91), 2, 2, bends(90)}, {exact(0, 90, 90), span(91, 91), none, none, nil}, {exact(0, 90, 18), span(270, 270), 5, 5, bends(90)},
		// half of each bend springs back, rounded down
		{exact(500, 5, 0), span(3, 3), 1, 1, bends(5)}, {exact(500, 5, 0), span(2, 2), 1, 1, bends(3, 4)}, {exact(500, 5, 0), span(18, 18), 6, 6, bends(5)}, {exact(500, 5, 0), span(19, 19), none, none, nil},
		// 5 ends at 4 or 5, so that only 4 and 1 surely make 5
		{unsure(5, 4), span(5, 5), 2, 2, bends(4, 5)}, {unsure(5, 5), span(5, 5), none, none, nil}, {unsure(5, 5), span(4, 5), 1, 1, bends(4, 5)},
		// 25 ends at 20 or 21, and is bent by 1 if it was measured as 20
		{unsure(25, 24), span(21, 21), none, 2, bends(25)}, {unsure(25, 24), span(20, 21), 1, 1, bends(25)}, {unsure(25, 25), span(21, 21), none, none, nil},
		// 20 ends at 19 up to the spring 99, and at 18 from 100 on; then 10, which is 10 up to 99 alone, and 12, which is 11 from 84 on, both make 29
		{api.Cane{Spring: span(69, 106), Limit: 20, Tire: 8}, span(29, 29), 3, 2, bends(20)},
		{api.Cane{Spring: span(398, 434), Limit: 40, Tire: 4}, span(44, 44), 4, 2, bends(40)},
		{api.Cane{Spring: span(149, 183), Limit: 36}, span(58, 58), 3, 2, bends(34)},
		// all that is possible is just enough for some springs
		{api.Cane{Spring: span(24, 60), Limit: 86, Tire: 22}, span(182, 182), none, 3, bends(86)},
		{api.Cane{Spring: span(48, 84), Limit: 54, Tire: 3}, span(140, 140), none, 3, bends(53, 54)},
		// 50 of a cane that springs back by 9 or by 11 thousandths of it ends at 41 or 39
		{gap, span(40, 40), none, none, nil}, {gap, span(39, 41), 1, 1, bends(49, 50)}, {gap, span(40, 41), none, 2, bends(49, 50)},
	}
}

func TestP6_5Fewest(t *testing.T) {
	for i, x := range wanteds() {
		many, want := x.fewest, api.OK
		if x.fewest == none {
			many, want = 0, api.ErrNone
		}
		if n, e := canes.Fewest(x.c, x.want); n != many || e != want {
			t.Errorf("%d: Fewest of %v = %d, error %d; want %d, error %d", i, x.want, n, e, many, want)
		}
	}
}

func TestP6_6Bends(t *testing.T) {
	for i, x := range wanteds() {
		l, e := canes.Bends(x.c, x.want)
		if x.fewest == none {
			if len(l) > 0 || e != api.ErrNone {
				t.Errorf("%d: Bends of %v = %v, error %d; want none", i, x.want, l, e)
			}
			continue
		}
		n, f := canes.Fits(x.c, l, x.want)
		if len(l) != x.fewest || e != api.OK || n != api.Surely || f != api.OK {
			t.Errorf("%d: Bends of %v = %v, error %d, which fit %d, error %d; want %d", i, x.want, l, e, n, f, x.fewest)
		}
	}
	if l, _ := canes.Bends(exact(0, 2, 1), span(3, 3)); !slices.Equal(l, bends(2, 1)) {
		t.Errorf("Bends = %v", l)
	}
}

func TestP6_7Measured(t *testing.T) {
	for i, x := range wanteds() {
		many, want := x.measured, api.OK
		if x.measured == none {
			many, want = 0, api.ErrNone
		}
		if n, e := canes.Measured(x.c, x.want); n != many || e != want {
			t.Errorf("%d: Measured of %v = %d, error %d; want %d, error %d", i, x.want, n, e, many, want)
		}
	}
}

func TestP6_8First(t *testing.T) {
	for i, x := range wanteds() {
		n, e := canes.First(x.c, x.want)
		switch {
		case x.measured == none:
			if n != 0 || e != api.ErrNone {
				t.Errorf("%d: First of %v = %d, error %d; want none", i, x.want, n, e)
			}
		case x.measured == 0:
			if n != 0 || e != api.OK {
				t.Errorf("%d: First of %v = %d, error %d; want 0", i, x.want, n, e)
			}
		case !slices.Contains(x.first, n) || e != api.OK:
			t.Errorf("%d: First of %v = %d, error %d; want one of %v", i, x.want, n, e, x.first)
		}
	}
}
