package canes_test

import (
	"slices"
	"testing"

	"ferrule/api"
	"ferrule/canes"
)

func springs(c api.Cane) []int { l, _ := canes.Springs(c); return l }

func after(c api.Cane, bends []int) api.Span { s, _ := canes.After(c, bends); return s }

func fits(c api.Cane, bends []int, want api.Span) int { n, _ := canes.Fits(c, bends, want); return n }

// tooMany is more than any number of bends: it stands for ErrNone.
const tooMany = api.MaxBends + 1

// fewest and measured are the numbers of bends, tooMany if there is none.
func fewest(c api.Cane, want api.Span) int { n, e := canes.Fewest(c, want); return orTooMany(n, e) }

func measured(c api.Cane, want api.Span) int { n, e := canes.Measured(c, want); return orTooMany(n, e) }

func orTooMany(n int, e api.Errno) int {
	if e != api.OK {
		return tooMany
	}
	return n
}

// asking is a cane with a truth, bends, and a wanted angle.
type asking struct {
	c     api.Cane
	bends []int
	want  api.Span
}

// drawn are canes of all sizes.
func drawn(seed uint64, many int) []asking {
	x := newRandom(seed)
	var all []asking
	for _, y := range wanteds() {
		all = append(all, asking{y.c, x.bends(y.c), y.want})
	}
	for range many {
		for _, name := range []string{"small", "many pieces", "with gaps", "tired", "few bends", "large"} {
			z := sizes()[name]
			c := x.cane(z)
			tried, want := x.wanted(c, z.wide)
			if len(springs(c)) > 0 {
				all = append(all, asking{c, tried, want})
			}
		}
	}
	return all
}

// bentOf is a cane of which the spring is known to be this.
func bentOf(c api.Cane, spring int) api.Cane {
	c.Spring, c.Bents = span(spring, spring), nil
	return c
}

func isIn(s api.Span, n int) bool { return n >= s.Low && n <= s.High }

func TestP6_12EachTruth(t *testing.T) {
	met := map[int]int{}
	for _, a := range drawn(10, 100) {
		s, known := after(a.c, a.bends), fits(a.c, a.bends, a.want)
		met[known]++
		ends := map[int]bool{}
		for _, spring := range springs(a.c) {
			one := bentOf(a.c, spring)
			angle := after(one, a.bends)
			ends[angle.Low] = true
			if angle.Low != angle.High || !isIn(s, angle.Low) {
				t.Errorf("%+v: After = %v, but there is %v", a, s, angle)
			}
			n := fits(one, a.bends, a.want)
			if n != map[bool]int{true: surely, false: never}[isIn(a.want, angle.Low)] || known != perhaps && known != n {
				t.Errorf("%+v: Fits = %d, but there is %d at %v", a, known, n, angle)
			}
		}
		if !ends[s.Low] || !ends[s.High] {
			t.Errorf("%+v: After = %v, but there are %v", a, s, ends)
		}
	}
	for _, n := range []int{surely, never, perhaps} {
		if met[n] < 20 {
			t.Errorf("Fits is %d: %d", n, met[n])
		}
	}
}

func TestP6_13MeasuringHelps(t *testing.T) {
	met := map[string]int{}
	for _, a := range drawn(11, 100) {
		blind, seen := fewest(a.c, a.want), measured(a.c, a.want)
		switch {
		case seen > blind:
			t.Errorf("%+v: Measured = %d, Fewest = %d", a, seen, blind)
		case seen == blind:
			met["it is the same"]++
		case blind == tooMany:
			met["there is none without"]++
		default:
			met["it is less"]++
		}
		if fits(a.c, a.bends, a.want) == surely {
			met["surely enough"]++
			if len(a.bends) < blind {
				t.Errorf("%+v: Fewest = %d", a, blind)
			}
		}
	}
	for _, name := range []string{"it is the same", "there is none without", "it is less", "surely enough"} {
		if met[name] < 10 {
			t.Errorf("%s: %d", name, met[name])
		}
	}
}

// Fewer bends than Fewest are never surely enough: all of them are tried.
func TestP6_13FewerBends(t *testing.T) {
	x := newRandom(12)
	tried := 0
	for range 150 {
		c := x.cane(size{0, 6, 2, 40, 2, 0})
		_, want := x.wanted(c, 1)
		if len(springs(c)) == 0 {
			continue
		}
		blind := fewest(c, want)
		for many := range min(blind, 4) {
			for _, l := range allBends(c, many) {
				tried++
				if fits(c, l, want) == surely {
					t.Errorf("%+v, %v: Fewest = %d, but there is %v", c, want, blind, l)
				}
			}
		}
	}
	if tried < 1000 {
		t.Errorf("%d are tried", tried)
	}
}

// allBends are all possible bends of a number.
func allBends(c api.Cane, many int) [][]int {
	all := [][]int{nil}
	for number := range many {
		var longer [][]int
		for _, l := range all {
			for b := 1; b <= c.Limit-c.Tire*number; b++ {
				longer = append(longer, append(slices.Clone(l), b))
			}
		}
		all = longer
	}
	return all
}

// rest is a cane after a bend that sprang back so: its truths are some of
// those before, and it was made weaker. The wanted angle is nearer, unless it
// has been passed.
func rest(a asking, bend, back int, group []int) (asking, bool) {
	gain := bend - back
	c := api.Cane{Spring: span(group[0], group[len(group)-1]), Bents: slices.Clone(a.c.Bents), Wrong: a.c.Wrong, Limit: a.c.Limit - a.c.Tire, Tire: a.c.Tire}
	return asking{c: c, want: span(max(0, a.want.Low-gain), a.want.High-gain)}, a.want.High >= gain
}

func TestP6_14ThePlay(t *testing.T) {
	met := map[string]int{}
	for _, a := range drawn(13, 100) {
		many := measured(a.c, a.want)
		first, e := canes.First(a.c, a.want)
		if many == 0 || many == tooMany {
			if first != 0 || (e == api.OK) != (many == 0) {
				t.Errorf("%+v: First = %d, error %d; Measured = %d", a, first, e, many)
			}
			continue
		}
		all := groups(first, springs(a.c))
		if len(all) > 1 {
			met["several groups"]++
		}
		if many > 2 {
			met["more than two bends"]++
		}
		for back, group := range all {
			r, ok := rest(a, first, back, group)
			if !ok {
				t.Errorf("%+v: First = %d, which springs back by %d and is too great", a, first, back)
				continue
			}
			if r.c.Limit < 1 { // no bend more is possible
				if r.want.Low > 0 {
					t.Errorf("%+v: First = %d, which is not enough if it springs back by %d", a, first, back)
				}
				continue
			}
			if n := measured(r.c, r.want); n > many-1 {
				t.Errorf("%+v: Measured = %d, First = %d, but if it springs back by %d, Measured = %d", a, many, first, back, n)
			}
		}
	}
	for _, name := range []string{"several groups", "more than two bends"} {
		if met[name] < 30 {
			t.Errorf("%s: %d", name, met[name])
		}
	}
}

// wantNoMore holds that neither Fewest nor Measured is greater than it was.
func wantNoMore(t *testing.T, met map[string]int, before, now asking) {
	t.Helper()
	blind, seen := fewest(now.c, now.want), measured(now.c, now.want)
	if blind > fewest(before.c, before.want) || seen > measured(before.c, before.want) {
		t.Errorf("%+v: Fewest = %d, Measured = %d; %+v: %d, %d", before, fewest(before.c, before.want), measured(before.c, before.want), now, blind, seen)
	}
	if blind < fewest(before.c, before.want) {
		met["fewer"]++
	}
	if seen < measured(before.c, before.want) {
		met["measured with less"]++
	}
}

func TestP6_15MoreKnown(t *testing.T) {
	x := newRandom(14)
	met := map[string]int{}
	for _, a := range drawn(14, 400) {
		c := a.c
		if len(c.Bents) == api.MaxBents {
			continue
		}
		all := springs(c)
		c.Bents = append(slices.Clone(c.Bents), x.bent(all[x.IntN(len(all))]))
		if len(springs(c)) == 0 {
			continue
		}
		was, is := after(a.c, a.bends), after(c, a.bends)
		if is.Low < was.Low || is.High > was.High {
			t.Errorf("%+v: After = %v; %+v: %v", a, was, c, is)
		}
		if is != was {
			met["narrower"]++
		}
		wantNoMore(t, met, a, asking{c, a.bends, a.want})
	}
	for _, name := range []string{"narrower", "fewer", "measured with less"} {
		if met[name] < 5 {
			t.Errorf("%s: %d", name, met[name])
		}
	}
}

func TestP6_15Wider(t *testing.T) {
	x := newRandom(15)
	met := map[string]int{}
	for _, a := range drawn(15, 100) {
		wide := span(max(0, a.want.Low-x.IntN(3)), min(api.MaxAngle, a.want.High+x.IntN(3)))
		wantNoMore(t, met, a, asking{a.c, a.bends, wide})
	}
	for _, name := range []string{"fewer", "measured with less"} {
		if met[name] < 20 {
			t.Errorf("%s: %d", name, met[name])
		}
	}
}

func TestP6_16Stronger(t *testing.T) {
	x := newRandom(16)
	met := map[string]int{}
	for _, a := range drawn(16, 100) {
		c := a.c
		if x.IntN(2) == 0 {
			c.Limit = min(api.MaxBend, c.Limit+x.from(1, 9))
		} else {
			c.Tire = max(0, c.Tire-x.from(1, 9))
		}
		wantNoMore(t, met, a, asking{c, a.bends, a.want})
	}
	for _, name := range []string{"fewer", "measured with less"} {
		if met[name] < 20 {
			t.Errorf("%s: %d", name, met[name])
		}
	}
}

func TestP6_16OtherOrder(t *testing.T) {
	x := newRandom(17)
	others := 0
	for _, a := range drawn(17, 100) {
		c := a.c
		c.Limit, c.Tire = api.MaxBend, 0 // so that all orders are possible
		was, known := after(c, a.bends), fits(c, a.bends, a.want)
		other := slices.Clone(a.bends)
		x.Shuffle(len(other), func(i, j int) { other[i], other[j] = other[j], other[i] })
		if !slices.Equal(other, a.bends) {
			others++
		}
		if s, n := after(c, other), fits(c, other, a.want); s != was || n != known {
			t.Errorf("%+v: After = %v, Fits = %d; of %v: %v, %d", a, was, known, other, s, n)
		}
	}
	if others < 100 {
		t.Errorf("%d other orders", others)
	}
}

// steamers are some of all sizes.
func steamers(seed uint64) []api.Steamer {
	x := newRandom(seed)
	var all []api.Steamer
	for _, y := range steameds() {
		all = append(all, y.s)
	}
	for range 150 {
		all = append(all, x.steamer(5, 6), x.steamer(4, 20), x.steamer(3, api.MaxSoak))
	}
	return append(all, x.steamer(7, 30), x.steamer(7, api.MaxSoak), x.steamer(7, 3))
}

func TestP6_17NoneIsSooner(t *testing.T) {
	for _, s := range steamers(18) {
		least, e := canes.Quickest(s)
		if e != api.OK {
			t.Errorf("%+v: Quickest: error %d", s, e)
		}
		reached := false
		for _, order := range allOrders(len(s.Boils)) {
			n, _ := canes.Done(s, order)
			reached = reached || n == least
			if n < least {
				t.Errorf("%+v: Quickest = %d, but %v is done at %d", s, least, order, n)
			}
		}
		if !reached {
			t.Errorf("%+v: Quickest = %d, but none is done then", s, least)
		}
		all := 0
		for _, b := range s.Boils {
			all += b.Bend
			if b.Soak+b.Bend > least {
				t.Errorf("%+v: Quickest = %d", s, least)
			}
		}
		if all > least {
			t.Errorf("%+v: Quickest = %d, but all are bent for %d", s, least, all)
		}
	}
}

// shorter draws a steamer with one more place, or with less of a soak or a bend.
func (x random) shorter(s api.Steamer) api.Steamer {
	s.Boils = slices.Clone(s.Boils)
	many := len(s.Boils)
	if many == 0 || s.Room < api.MaxRoom && x.IntN(3) == 0 {
		s.Room = min(api.MaxRoom, s.Room+1)
		return s
	}
	b := &s.Boils[x.IntN(many)]
	if x.IntN(2) == 0 {
		b.Soak = x.from(0, b.Soak)
	} else {
		b.Bend = x.from(0, b.Bend)
	}
	return s
}

func TestP6_17Shorter(t *testing.T) {
	x := newRandom(19)
	sooner := 0
	for _, s := range steamers(19) {
		other := x.shorter(s)
		for _, order := range allOrders(len(s.Boils)) {
			was, _ := canes.Done(s, order)
			is, e := canes.Done(other, order)
			if is > was || e != api.OK {
				t.Errorf("%+v: %v is done at %d; %+v: at %d, error %d", s, order, was, other, is, e)
			}
			if is < was {
				sooner++
			}
		}
	}
	if sooner < 1000 {
		t.Errorf("%d are done sooner", sooner)
	}
}
