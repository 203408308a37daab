package gusts_test

import (
	"math/big"
	"slices"
	"testing"

	"ferrule/api"
	"ferrule/frames"
	"ferrule/gusts"
)

func lift(d api.Canopy) api.Span { s, _ := gusts.Lift(d); return s }

func loads(d api.Canopy, g api.Gust) []api.Span { l, _ := gusts.Loads(d, g); return l }

func surelyGo(d api.Canopy, g api.Gust) []int { l, _, _ := gusts.Goes(d, g); return l }

func mayGo(d api.Canopy, g api.Gust) []int { _, l, _ := gusts.Goes(d, g); return l }

func stands(d api.Canopy, class []api.Gust) int { n, _ := gusts.Stands(d, class); return n }

func weak(d api.Canopy, class []api.Gust) []int { l, _ := gusts.Weak(d, class); return l }

// blown is a dome, and gusts some of which it can fail to stand.
type blown struct {
	d     api.Canopy
	class []api.Gust
}

// drawn are domes of all sizes.
func drawn(seed uint64, many int) []blown {
	x := newRandom(seed)
	all := []blown{{domeD(), class(gust(12, 0), gust(14, 0), gust(20, 3), gust(6, 3))}}
	for _, s := range stoods() {
		all = append(all, blown{s.d, s.class})
	}
	for _, s := range gones() {
		all = append(all, blown{s.d, class(s.g)})
	}
	for range many {
		for _, z := range []size{{1, 5, 2, 4, 6, 20}, {1, api.MaxRibs, api.MaxPlay, 40, 20, 40}, {1, api.MaxRibs, 1, 999, api.MaxShare, api.MaxForce}} {
			d, g := x.dome(z)
			all = append(all, blown{d, append(x.class(d, g, 3), g)})
		}
	}
	return all
}

// isWithin tells whether all elements of a list are elements of another one.
func isWithin(list, other []int) bool {
	return !slices.ContainsFunc(list, func(n int) bool { return !slices.Contains(other, n) })
}

// denies tells whether what is known of all truths is not so in one of them.
func denies(known, one int) bool { return known != api.Perhaps && known != one }

func (x random) in(s api.Span) int { return x.from(s.Low, s.High) }

// narrower draws a span within another one.
func (x random) narrower(s api.Span) api.Span {
	low := x.in(s)
	return span(low, x.from(low, s.High))
}

// truth draws a dome of which all is known.
func (x random) truth(d api.Canopy) api.Canopy {
	d = copied(d)
	s := &d.Frame.Sections[0]
	arm, stretch := x.in(s.Arm), x.in(s.Stretch)
	s.Arm, s.Stretch = span(arm, arm), span(stretch, stretch)
	for rib, strength := range d.Ribs {
		n := x.in(strength)
		d.Ribs[rib] = span(n, n)
	}
	return d
}

// holdsTruth holds what is known of a dome against one of its truths.
func holdsTruth(t *testing.T, b blown, one api.Canopy) {
	t.Helper()
	m := newModel(one)
	is := m.truths[0]
	if s := lift(b.d); is.lift < s.Low || is.lift > s.High {
		t.Errorf("%+v: Lift = %v, but there is %d", b.d, s, is.lift)
	}
	for _, g := range b.class {
		for rib, s := range loads(b.d, g) {
			if n := m.load(is, g, rib); n < s.Low || n > s.High {
				t.Errorf("%+v: Loads of %v = %v for the rib %d, but there is %d", b.d, g, s, rib, n)
			}
		}
		sure, may := surelyGo(b.d, g), mayGo(b.d, g)
		if all := slices.Concat(m.rounds(is, g)...); !isWithin(sure, all) || !isWithin(all, may) {
			t.Errorf("%+v: Goes of %v = %v, %v, but %v go", b.d, g, sure, may, all)
		}
	}
	if n := stands(b.d, b.class); denies(n, m.known(b.class)) {
		t.Errorf("%+v: Stands = %d of %v, but there is %d", b.d, n, b.class, m.known(b.class))
	}
}

func TestP5_9EachTruth(t *testing.T) {
	x := newRandom(10)
	for _, b := range drawn(10, 150) {
		for range 5 {
			holdsTruth(t, b, x.truth(b.d))
		}
	}
}

// stronger draws a dome one of whose ribs is stronger.
func (x random) stronger(d api.Canopy) api.Canopy {
	d = copied(d)
	s := &d.Ribs[x.IntN(len(d.Ribs))]
	by := x.from(1, 1+s.High)
	switch x.IntN(3) {
	case 0:
		s.Low, s.High = min(s.Low+by, api.MaxStrength), min(s.High+by, api.MaxStrength)
	case 1:
		s.High = min(s.High+by, api.MaxStrength)
	default:
		s.Low = min(s.Low+by, s.High)
	}
	return d
}

// wantNoMore holds that nothing goes that did not, and that no dome is stood less.
func wantNoMore(t *testing.T, before, after blown, g, then api.Gust) {
	t.Helper()
	was, is := surelyGo(before.d, g), surelyGo(after.d, then)
	if !isWithin(is, was) || !isWithin(mayGo(after.d, then), mayGo(before.d, g)) {
		t.Errorf("%+v: Goes of %v = %v, %v; %+v: of %v %v, %v", before.d, g, was, mayGo(before.d, g), after.d, then, is, mayGo(after.d, then))
	}
	rank := map[int]int{api.Never: 0, api.Perhaps: 1, api.Surely: 2}
	if a, b := stands(before.d, before.class), stands(after.d, after.class); rank[b] < rank[a] {
		t.Errorf("%+v: Stands of %v = %d; %+v: of %v %d", before.d, before.class, a, after.d, after.class, b)
	}
}

func TestP5_10Stronger(t *testing.T) {
	x := newRandom(11)
	fewer := 0
	for _, b := range drawn(11, 200) {
		for _, g := range b.class {
			d := x.stronger(b.d)
			wantNoMore(t, b, blown{d, b.class}, g, g)
			lesser := gust(x.IntN(g.Force+1), g.At)
			wantNoMore(t, blown{b.d, class(g)}, blown{b.d, class(lesser)}, g, lesser)
			if len(mayGo(d, g)) < len(mayGo(b.d, g)) {
				fewer++
			}
		}
	}
	if fewer < 50 {
		t.Errorf("fewer go: %d", fewer)
	}
}

func TestP5_10GreaterLoads(t *testing.T) {
	x := newRandom(12)
	more := 0
	for _, b := range drawn(12, 200) {
		d := copied(b.d)
		share := &d.Shares[x.IntN(len(d.Shares))]
		*share = x.from(*share, api.MaxShare)
		for _, g := range b.class {
			wantNoMore(t, blown{d, b.class}, b, g, g)
			if len(mayGo(d, g)) > len(mayGo(b.d, g)) {
				more++
			}
		}
	}
	if more < 50 {
		t.Errorf("more go: %d", more)
	}
}

// finer draws a dome that is known as well or better.
func (x random) finer(d api.Canopy) api.Canopy {
	d = copied(d)
	for i := range d.Ribs {
		d.Ribs[i] = x.narrower(d.Ribs[i])
	}
	if x.IntN(2) == 0 {
		s := &d.Frame.Sections[0]
		s.Arm, s.Stretch = x.narrower(s.Arm), x.narrower(s.Stretch)
	}
	return d
}

func TestP5_11WhatIsKnown(t *testing.T) {
	x := newRandom(13)
	met := map[string]int{}
	for _, b := range drawn(13, 200) {
		d := x.finer(b.d)
		for _, g := range b.class {
			was, is := surelyGo(b.d, g), surelyGo(d, g)
			could, can := mayGo(b.d, g), mayGo(d, g)
			if !isWithin(was, is) || !isWithin(can, could) || !isWithin(is, can) {
				t.Errorf("%+v: Goes of %v = %v, %v; %+v: %v, %v", b.d, g, was, could, d, is, can)
			}
			if len(is) > len(was) {
				met["more surely"]++
			}
			if len(can) < len(could) {
				met["fewer perhaps"]++
			}
		}
		if denies(stands(b.d, b.class), stands(d, b.class)) {
			t.Errorf("%+v: Stands of %v = %d; %+v: %d", b.d, b.class, stands(b.d, b.class), d, stands(d, b.class))
		}
		if stands(b.d, b.class) != stands(d, b.class) {
			met["known"]++
		}
	}
	for _, name := range []string{"more surely", "fewer perhaps", "known"} {
		if met[name] < 20 {
			t.Errorf("%s: %d", name, met[name])
		}
	}
}

func TestP5_12TheClass(t *testing.T) {
	for _, b := range drawn(14, 200) {
		n := stands(b.d, b.class)
		_, _, e := gusts.First(b.d, b.class)
		ribs := weak(b.d, b.class)
		if (n == api.Surely) != (e == api.ErrNone) || (n == api.Surely) != (len(ribs) == 0) {
			t.Errorf("%+v, %v: Stands = %d, First: error %d, Weak = %v", b.d, b.class, n, e, ribs)
		}
		strong := copied(b.d)
		for _, rib := range ribs {
			most := 0
			for _, g := range b.class {
				most = max(most, loads(b.d, g)[rib].High)
			}
			strong.Ribs[rib] = span(most, most)
		}
		if n := stands(strong, b.class); n != api.Surely {
			t.Errorf("%+v, %v: Stands = %d with all of %v strong", b.d, b.class, n, ribs)
		}
		for _, rib := range ribs {
			left := copied(strong)
			left.Ribs[rib] = b.d.Ribs[rib]
			if n := stands(left, b.class); n == api.Surely {
				t.Errorf("%+v, %v: Stands = %d with all of %v strong but %d", b.d, b.class, n, ribs, rib)
			}
		}
	}
}

func TestP5_12First(t *testing.T) {
	for _, b := range drawn(15, 200) {
		number, ribs, e := gusts.First(b.d, b.class)
		if e != api.OK {
			continue
		}
		if stands(b.d, b.class[:number]) != api.Surely || stands(b.d, b.class[:number+1]) == api.Surely {
			t.Errorf("%+v, %v: First = %d", b.d, b.class, number)
		}
		g := b.class[number]
		if !slices.Equal(ribs, weak(b.d, class(g))) || !isWithin(ribs, mayGo(b.d, g)) {
			t.Errorf("%+v, %v: First = %d, %v; Goes = %v, Weak = %v", b.d, b.class, number, ribs, mayGo(b.d, g), weak(b.d, class(g)))
		}
	}
}

func TestP5_12Most(t *testing.T) {
	for _, b := range drawn(16, 40) {
		for at := range b.d.Ribs {
			most, e := gusts.Most(b.d, at)
			if e != api.OK {
				t.Errorf("%+v: Most of %d: error %d", b.d, at, e)
			}
			for force := range api.MaxForce + 1 {
				if stood := stands(b.d, class(gust(force, at))) == api.Surely; stood != (force <= most) {
					t.Errorf("%+v: Most of %d = %d, but the force %d is surely stood: %t", b.d, at, most, force, stood)
				}
			}
		}
	}
}

func TestP5_13Turned(t *testing.T) {
	for _, b := range drawn(17, 100) {
		many := len(b.d.Ribs)
		for by := range many {
			d := copied(b.d)
			d.Ribs = slices.Concat(b.d.Ribs[by:], b.d.Ribs[:by])
			turned := func(ribs []int) []int {
				var all []int
				for _, rib := range ribs {
					all = append(all, modulo(rib-by, many))
				}
				slices.Sort(all)
				return all
			}
			for _, g := range b.class {
				then := gust(g.Force, modulo(g.At-by, many))
				sure, may := turned(surelyGo(b.d, g)), turned(mayGo(b.d, g))
				if !slices.Equal(surelyGo(d, then), sure) || !slices.Equal(mayGo(d, then), may) {
					t.Errorf("%+v: Goes of %v = %v, %v; from %d on: %v, %v", b.d, g, sure, may, by, surelyGo(d, then), mayGo(d, then))
				}
				was, _ := gusts.Most(b.d, g.At)
				if is, e := gusts.Most(d, then.At); is != was || e != api.OK {
					t.Errorf("%+v: Most of %d = %d; from %d on: %d, error %d", b.d, g.At, was, by, is, e)
				}
			}
		}
	}
}

func TestP5_14Rounds(t *testing.T) {
	later := 0
	for _, b := range drawn(18, 300) {
		many := len(b.d.Ribs)
		for _, g := range b.class {
			may := mayGo(b.d, g)
			_, first, _ := gusts.First(b.d, class(g))
			for _, rib := range may {
				if slices.Contains(first, rib) {
					continue
				}
				later++
				if !slices.Contains(may, (rib+1)%many) && !slices.Contains(may, (rib+many-1)%many) {
					t.Errorf("%+v: Goes of %v = %v, and first %v", b.d, g, may, first)
				}
			}
		}
	}
	if later < 200 {
		t.Errorf("%d go later", later)
	}
}

func TestP0_1TheLift(t *testing.T) {
	for _, b := range drawn(19, 200) {
		low, high, e := frames.Cosine(b.d.Frame, 0, b.d.Frame.Low)
		want := span(liftAt(big.NewRat(int64(low.Num), int64(low.Den))), liftAt(big.NewRat(int64(high.Num), int64(high.Den))))
		if s := lift(b.d); s != want || e != api.OK {
			t.Errorf("%+v: Lift = %v, but Cosine = %v, %v, error %d", b.d, s, low, high, e)
		}
	}
}

func TestP0_1Most(t *testing.T) {
	greater := 0
	for _, b := range drawn(20, 100) {
		for at := range b.d.Ribs {
			most, _ := gusts.Most(b.d, at)
			if may := mayGo(b.d, gust(most, at)); len(may) > 0 {
				t.Errorf("%+v: Most of %d = %d, but %v may go", b.d, at, most, may)
			}
			if most == api.MaxForce {
				continue
			}
			greater++
			if may := mayGo(b.d, gust(most+1, at)); len(may) == 0 {
				t.Errorf("%+v: Most of %d = %d, but none may go by 1 more", b.d, at, most)
			}
		}
	}
	if greater < 200 {
		t.Errorf("%d forces that are greater", greater)
	}
}
