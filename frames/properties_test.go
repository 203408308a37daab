package frames_test

import (
	"math/big"
	"slices"
	"testing"

	"ferrule/api"
	"ferrule/frames"
)

// copied is a frame whose sections can be changed.
func copied(f api.Frame) api.Frame {
	f.Sections = slices.Clone(f.Sections)
	return f
}

// narrower draws a span within another one.
func (x random) narrower(s api.Span) api.Span {
	low := x.from(s.Low, s.High)
	return span(low, x.from(low, s.High))
}

// finer draws a frame that is known as well or better.
func (x random) finer(f api.Frame) api.Frame {
	f = copied(f)
	for i := range f.Sections {
		s := &f.Sections[i]
		s.Arm, s.Stretch = x.narrower(s.Arm), x.narrower(s.Stretch)
	}
	return f
}

// truth draws a frame that is known through and through.
func (x random) truth(f api.Frame) api.Frame {
	f = x.finer(f)
	for i := range f.Sections {
		s := &f.Sections[i]
		s.Arm.High, s.Stretch.High = s.Arm.Low, s.Stretch.Low
	}
	return f
}

// drawn are frames of all sizes.
func drawn(seed uint64, many int) []api.Frame {
	x := newRandom(seed)
	all := []api.Frame{frameF(100), frameF(106), frameF(120), between(), threefold()}
	for range many {
		all = append(all, x.frame(30, 10, 3), x.frame(150, 60, api.MaxPlay))
	}
	return all
}

func less(a, b api.Frac) bool { return a.Num*b.Den < b.Num*a.Den }

func binds(f api.Frame, section, r int) int { n, _ := frames.Binds(f, section, r); return n }

func turns(f api.Frame, section int) int { n, _ := frames.Turns(f, section); return n }

func opens(f api.Frame) int { n, _ := frames.Opens(f); return n }

func closes(f api.Frame) int { n, _ := frames.Closes(f); return n }

// everywhere calls for each section and each position.
func everywhere(f api.Frame, call func(section, r int)) {
	for i := range f.Sections {
		for r := f.Low; r <= f.High; r++ {
			call(i, r)
		}
	}
}

func ratio(q api.Frac) *big.Rat { return big.NewRat(int64(q.Num), int64(q.Den)) }

// denies tells whether what is known of all truths is not so in one of them.
func denies(known, one int) bool { return known != api.Perhaps && known != one }

// holdsTruth holds what is known of a frame against one of its truths.
func holdsTruth(t *testing.T, f, truth api.Frame) {
	t.Helper()
	m := newModel(truth)
	firstSection, first, e := frames.First(f)
	everywhere(f, func(i, r int) {
		low, high, g := frames.Cosine(f, i, r)
		one := m.at([]int{0, 0, 0}, i, r)
		if (g == api.ErrNone) != (one.cosine == nil) {
			t.Errorf("%v: Cosine of %d at %d: error %d", f, i, r, g)
		} else if g == api.OK && (one.cosine.Cmp(ratio(low)) < 0 || one.cosine.Cmp(ratio(high)) > 0) {
			t.Errorf("%v: Cosine of %d at %d = %v, %v, but there is %v", f, i, r, low, high, one.cosine)
		}
		if n := binds(f, i, r); denies(n, m.binds(i, r)) {
			t.Errorf("%v: Binds of %d at %d = %d, but there is %d", f, i, r, n, m.binds(i, r))
		}
		reached := e == api.OK && (r < first || r == first && i >= firstSection)
		if one.binds && !reached {
			t.Errorf("%v: First = %d, %d, error %d, but %d binds at %d", f, firstSection, first, e, i, r)
		}
	})
	for i := range f.Sections {
		if n := turns(f, i); denies(n, m.turns(i)) {
			t.Errorf("%v: Turns of %d = %d, but there is %d", f, i, n, m.turns(i))
		}
	}
	if denies(opens(f), m.opens()) || denies(closes(f), m.closes()) {
		t.Errorf("%v: Opens = %d, Closes = %d, but there are %d, %d", f, opens(f), closes(f), m.opens(), m.closes())
	}
}

func TestP1_10EachTruth(t *testing.T) {
	x := newRandom(10)
	for _, f := range drawn(10, 150) {
		for range 4 {
			holdsTruth(t, f, x.truth(f))
		}
	}
}

func TestP1_11Ends(t *testing.T) {
	for _, f := range drawn(11, 60) {
		everywhere(f, func(i, r int) {
			low, high, e := frames.Cosine(f, i, r)
			if e != api.OK {
				return
			}
			least, greatest := false, false
			s := f.Sections[i]
			d, _ := frames.Distance(f, i, r)
			for a := s.Arm.Low; a <= s.Arm.High; a++ {
				for b := s.Stretch.Low; b <= s.Stretch.High; b++ {
					c := big.NewRat(int64(d*d+a*a-b*b), int64(2*d*a))
					least, greatest = least || same(low, c), greatest || same(high, c)
				}
			}
			if !least || !greatest {
				t.Errorf("%v: Cosine of %d at %d = %v, %v, but no truth has it", f, i, r, low, high)
			}
		})
	}
}

func TestP1_12FinerWork(t *testing.T) {
	x := newRandom(12)
	for _, f := range drawn(12, 300) {
		g := x.finer(f)
		everywhere(f, func(i, r int) {
			low, high, e := frames.Cosine(f, i, r)
			least, greatest, h := frames.Cosine(g, i, r)
			if e != h || e == api.OK && (less(least, low) || less(high, greatest)) {
				t.Errorf("%v, %v: Cosine of %d at %d = %v, %v, then %v, %v", f, g, i, r, low, high, least, greatest)
			}
			if denies(binds(f, i, r), binds(g, i, r)) {
				t.Errorf("%v, %v: Binds of %d at %d = %d, then %d", f, g, i, r, binds(f, i, r), binds(g, i, r))
			}
		})
		for i := range f.Sections {
			if denies(turns(f, i), turns(g, i)) {
				t.Errorf("%v, %v: Turns of %d = %d, then %d", f, g, i, turns(f, i), turns(g, i))
			}
		}
		if denies(opens(f), opens(g)) || denies(closes(f), closes(g)) {
			t.Errorf("%v, %v: Opens = %d, then %d; Closes = %d, then %d", f, g, opens(f), opens(g), closes(f), closes(g))
		}
		_, was, e := frames.First(f)
		_, is, h := frames.First(g)
		if h == api.OK && (e != api.OK || is > was) {
			t.Errorf("%v, %v: First at %d, error %d, then at %d", f, g, was, e, is)
		}
	}
}

func TestP1_13MoreEase(t *testing.T) {
	x := newRandom(13)
	for _, f := range drawn(13, 300) {
		g := copied(f)
		g.Ease = x.part()
		if less(g.Ease, f.Ease) {
			f.Ease, g.Ease = g.Ease, f.Ease
		}
		everywhere(f, func(i, r int) {
			was, is := binds(f, i, r), binds(g, i, r)
			if was == api.Surely && is != api.Surely || was == api.Perhaps && is == api.Never {
				t.Errorf("%v: Binds of %d at %d = %d, and %d with the Ease %v", f, i, r, was, is, g.Ease)
			}
		})
		was, is := opens(f), opens(g)
		if was == api.Never && is != api.Never || was == api.Perhaps && is == api.Surely {
			t.Errorf("%v: Opens = %d, and %d with the Ease %v", f, was, is, g.Ease)
		}
	}
}

func TestP1_14Larger(t *testing.T) {
	x := newRandom(14)
	for range 300 {
		f := x.truth(x.frame(60, 10, 0))
		times := x.from(2, 10)
		g := copied(f)
		g.Low, g.High = times*f.Low, times*f.High
		s := &g.Sections[0]
		s.Arm, s.Stretch = span(times*s.Arm.Low, times*s.Arm.Low), span(times*s.Stretch.Low, times*s.Stretch.Low)
		for r := f.Low; r <= f.High; r++ {
			low, high, e := frames.Cosine(f, 0, r)
			least, greatest, h := frames.Cosine(g, 0, times*r)
			if low != least || high != greatest || e != api.OK || h != api.OK {
				t.Errorf("%v: Cosine at %d = %v, %v, error %d, and %d times as large %v, %v, error %d", f, r, low, high, e, times, least, greatest, h)
			}
		}
	}
}

func TestP1_15TheFrame(t *testing.T) {
	for _, f := range drawn(15, 400) {
		_, _, e := frames.First(f)
		if (opens(f) == api.Surely) != (e == api.ErrNone) {
			t.Errorf("%v: Opens = %d, First: error %d", f, opens(f), e)
		}
		l, _ := frames.Blame(f)
		if (opens(f) == api.Never) != (len(l) > 0) {
			t.Errorf("%v: Opens = %d, Blame = %v", f, opens(f), l)
		}
		everywhere(f, func(i, r int) {
			g := copied(f)
			g.Sections = g.Sections[:i+1]
			if binds(f, i, r) != binds(g, i, r) {
				t.Errorf("%v: Binds of %d at %d = %d, and %d without those behind it", f, i, r, binds(f, i, r), binds(g, i, r))
			}
		})
	}
}
