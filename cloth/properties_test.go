package cloth_test

import (
	"reflect"
	"slices"
	"testing"

	"ferrule/api"
	"ferrule/cloth"
)

// copied is a dome of which everything can be changed.
func copied(d api.Dome) api.Dome {
	d.Bolts, d.Gores = slices.Clone(d.Bolts), slices.Clone(d.Gores)
	d.Rounds, d.Widths = slices.Clone(d.Rounds), slices.Clone(d.Widths)
	for i := range d.Bolts {
		d.Bolts[i].Strips = slices.Clone(d.Bolts[i].Strips)
	}
	return d
}

// drawn are domes of all sizes.
func drawn(seed uint64, many int) []api.Dome {
	x := newRandom(seed)
	all := []api.Dome{domeE(), domeF(50), domeF(49), lost(), withStrips(1, strip(1000, 1018, 1040)), fourfold()}
	for range many {
		all = append(all, x.dome(3, 2, 60), x.dome(4, 20, 400), x.dome(2, 60, 1900))
	}
	return all
}

func stretches(d api.Dome, bolt int) []int { l, _ := cloth.Stretches(d, bolt); return l }

func fewest(d api.Dome, bolt int) int { n, _ := cloth.Fewest(d, bolt); return n }

func tight(d api.Dome, row int) int { n, _ := cloth.Tight(d, row); return n }

// denies tells whether what is known of all truths is not so in one of them.
func denies(known, one int) bool { return known != api.Perhaps && known != one }

// truth draws a truth of a dome that has one, directly from its bolts.
func (x random) truth(d api.Dome) []int {
	var truth []int
	for _, b := range d.Bolts {
		var can []int
		for s := b.Stretch.Low; s <= b.Stretch.High; s++ {
			if untrue(b, s) <= b.Wrong {
				can = append(can, s)
			}
		}
		truth = append(truth, can[x.IntN(len(can))])
	}
	return truth
}

func hasTruth(d api.Dome) bool {
	for _, b := range d.Bolts {
		can := false
		for s := b.Stretch.Low; s <= b.Stretch.High; s++ {
			can = can || untrue(b, s) <= b.Wrong
		}
		if !can {
			return false
		}
	}
	return true
}

// holdsTruth holds what is known of a dome against one of its truths.
func holdsTruth(t *testing.T, d api.Dome, truth []int) {
	t.Helper()
	for bolt, s := range truth {
		if !slices.Contains(stretches(d, bolt), s) {
			t.Errorf("%v: Stretches of %d = %v, but there is %d", d, bolt, stretches(d, bolt), s)
		}
	}
	for row, width := range d.Widths {
		n := round(d, truth, width)
		if s, e := cloth.Round(d, row); !in(s, n) || e != api.OK {
			t.Errorf("%v: Round of %d = %v, error %d, but there is %d", d, row, s, e, n)
		}
		one := api.Never
		if in(d.Rounds[row], n) {
			one = api.Surely
		}
		if denies(tight(d, row), one) {
			t.Errorf("%v: Tight of %d = %d, but there is %d", d, row, tight(d, row), one)
		}
	}
}

func TestP2_10EachTruth(t *testing.T) {
	x := newRandom(10)
	for _, d := range drawn(10, 150) {
		if !hasTruth(d) {
			continue
		}
		for range 5 {
			holdsTruth(t, d, x.truth(d))
		}
	}
}

func TestP2_10EndsAreReached(t *testing.T) {
	for _, d := range drawn(10, 150) {
		if !hasTruth(d) {
			continue
		}
		var least, greatest []int
		for bolt := range d.Bolts {
			l := stretches(d, bolt)
			least, greatest = append(least, l[0]), append(greatest, l[len(l)-1])
		}
		for row, width := range d.Widths {
			want := span(round(d, least, width), round(d, greatest, width))
			if s, e := cloth.Round(d, row); s != want || e != api.OK {
				t.Errorf("%v: Round of %d = %v, error %d; want %v", d, row, s, e, want)
			}
		}
	}
}

func TestP2_11EveryWidthBetween(t *testing.T) {
	for _, d := range drawn(11, 20) {
		if !hasTruth(d) {
			continue
		}
		for row := range d.Rounds {
			cut, e := cloth.Cut(d, row)
			for width := 2 * d.Loss; width <= api.MaxWidth; width++ {
				c := copied(d)
				c.Widths[row] = width
				loose, _ := cloth.Loose(c)
				if slices.Contains(loose, row) == (e == api.OK && in(cut, width)) {
					t.Errorf("%v: Cut of %d = %v, error %d, but Loose = %v with %d", d, row, cut, e, loose, width)
				}
			}
		}
	}
}

func TestP2_12MoreKnown(t *testing.T) {
	x := newRandom(12)
	for _, d := range drawn(12, 200) {
		more := copied(d)
		b := &more.Bolts[x.IntN(len(d.Bolts))]
		b.Strips = append(b.Strips, x.strip(x.from(b.Stretch.Low, b.Stretch.High)))
		if !hasTruth(more) {
			continue
		}
		for bolt := range d.Bolts {
			for _, s := range stretches(more, bolt) {
				if !slices.Contains(stretches(d, bolt), s) {
					t.Errorf("%v, %v: Stretches of %d = %v, then %v", d, more, bolt, stretches(d, bolt), stretches(more, bolt))
				}
			}
		}
		for row := range d.Rounds {
			was, e := cloth.Round(d, row)
			is, g := cloth.Round(more, row)
			if is.Low < was.Low || is.High > was.High || e != api.OK || g != api.OK {
				t.Errorf("%v, %v: Round of %d = %v, error %d, then %v, error %d", d, more, row, was, e, is, g)
			}
			if denies(tight(d, row), tight(more, row)) {
				t.Errorf("%v, %v: Tight of %d = %d, then %d", d, more, row, tight(d, row), tight(more, row))
			}
		}
	}
}

func TestP2_13WiderCloth(t *testing.T) {
	x := newRandom(13)
	for _, d := range drawn(13, 200) {
		if !hasTruth(d) {
			continue
		}
		for row, width := range d.Widths {
			was, _ := cloth.Round(d, row)
			wider := copied(d)
			wider.Widths[row] = x.from(width, api.MaxWidth)
			if is, e := cloth.Round(wider, row); is.Low < was.Low || is.High < was.High || e != api.OK {
				t.Errorf("%v: Round of %d = %v, and %v, error %d, with the width %d", d, row, was, is, e, wider.Widths[row])
			}
			lossy := copied(d)
			lossy.Loss = x.from(d.Loss, min(api.MaxLoss, slices.Min(d.Widths)/2))
			if is, e := cloth.Round(lossy, row); is.Low > was.Low || is.High > was.High || e != api.OK {
				t.Errorf("%v: Round of %d = %v, and %v, error %d, with the Loss %d", d, row, was, is, e, lossy.Loss)
			}
		}
	}
}

func TestP2_14AnyOrder(t *testing.T) {
	x := newRandom(14)
	for _, d := range drawn(14, 100) {
		other := copied(d)
		x.Shuffle(len(other.Gores), func(i, j int) { other.Gores[i], other.Gores[j] = other.Gores[j], other.Gores[i] })
		for _, b := range other.Bolts {
			x.Shuffle(len(b.Strips), func(i, j int) { b.Strips[i], b.Strips[j] = b.Strips[j], b.Strips[i] })
		}
		for n := range max(len(d.Bolts), len(d.Rounds)) {
			if !reflect.DeepEqual(allOf(d, n), allOf(other, n)) {
				t.Errorf("%v: %v; %v: %v", d, allOf(d, n), other, allOf(other, n))
			}
		}
	}
}

// lowered is a curve with one width less in one row.
func lowered(curve []int, row int) []int {
	l := slices.Clone(curve)
	l[row]--
	return l
}

func TestP2_15TheCurve(t *testing.T) {
	x := newRandom(15)
	for range 150 {
		d := x.dome(2, 2, 60)
		least, e := cloth.Least(d)
		if !hasTruth(d) {
			continue
		}
		m := newModel(d)
		for range 40 {
			widths := make([]int, len(d.Rounds))
			sum := 0
			for row := range widths {
				widths[row] = x.from(max(2*d.Loss, d.Widths[row]-6), d.Widths[row]+6)
				sum += widths[row]
			}
			if m.fits(widths) && (e != api.OK || sum < least) {
				t.Errorf("%v: Least = %d, error %d, but there are %v", d, least, e, widths)
			}
		}
		curve, _ := cloth.Curve(d)
		for row := range curve {
			if m.fits(lowered(curve, row)) {
				t.Errorf("%v: Curve = %v, but there are %v", d, curve, lowered(curve, row))
			}
		}
	}
}

func TestP2_15SlopeAndTurn(t *testing.T) {
	x := newRandom(16)
	for _, d := range drawn(16, 150) {
		was, e := cloth.Least(d)
		steeper := copied(d)
		steeper.Slope = x.from(d.Slope, d.Slope+20)
		if is, g := cloth.Least(steeper); e == api.OK && (g != api.OK || is > was) {
			t.Errorf("%v: Least = %d, and %d, error %d, with the Slope %d", d, was, is, g, steeper.Slope)
		}
		turned := copied(d)
		slices.Reverse(turned.Rounds)
		slices.Reverse(turned.Widths)
		if is, g := cloth.Least(turned); is != was || g != e {
			t.Errorf("%v: Least = %d, error %d, and %d, error %d, from the edge", d, was, e, is, g)
		}
	}
}

func TestP2_16FalseStrips(t *testing.T) {
	for _, d := range drawn(17, 200) {
		for bolt, b := range d.Bolts {
			alone := copied(d)
			alone.Bolts, alone.Gores = alone.Bolts[bolt:bolt+1], []int{0, 0, 0}
			_, e := cloth.Stretches(alone, 0)
			if (e == api.OK) != (fewest(d, bolt) <= b.Wrong) {
				t.Errorf("%v: Fewest of %d = %d, but error %d with %d wrong", d, bolt, fewest(d, bolt), e, b.Wrong)
			}
			for i := range b.Strips {
				without := copied(d)
				without.Bolts[bolt].Strips = slices.Delete(without.Bolts[bolt].Strips, i, i+1)
				was, is := fewest(d, bolt), fewest(without, bolt)
				if is > was || is < was-1 {
					t.Errorf("%v: Fewest of %d = %d, and %d without the strip %d", d, bolt, was, is, i)
				}
			}
		}
	}
}
