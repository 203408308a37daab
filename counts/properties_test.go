package counts_test

import (
	"slices"
	"testing"

	"ferrule/api"
	"ferrule/counts"
	"ferrule/frames"
	"ferrule/gusts"
)

// drawn are runs of all sizes, with a truth; some of them are as large as can be.
func drawn(seed uint64, many int) []api.Run {
	x := newRandom(seed)
	list := []api.Run{runR(), runP(), laden(), least(), most(), with(runR(), 1), with(runR(), 0, meter(14, 0))}
	for range many {
		for _, z := range sizes() {
			list = append(list, x.run(z))
		}
		list = append(list, x.run(size{1, span(3, 10), 3, 40, 9, span(6, 8), span(2, 5), span(0, 2), 10}))
	}
	return slices.DeleteFunc(list, func(r api.Run) bool { return !isOpen(r) })
}

// isOpen tells whether a run has a truth.
func isOpen(r api.Run) bool {
	_, e := counts.Many(r)
	return e == api.OK
}

// valueOf is a value that is returned for what is valid and has a truth.
func valueOf[T any](t *testing.T, r api.Run, name string) func(value T, e api.Errno) T {
	t.Helper()
	return func(value T, e api.Errno) T {
		t.Helper()
		if e != api.OK {
			t.Errorf("%+v: %s: error %d", r, name, e)
		}
		return value
	}
}

func forcesOf(t *testing.T, r api.Run, blow int) []int {
	t.Helper()
	return valueOf[[]int](t, r, "Forces")(counts.Forces(r, blow))
}

func rightOf(t *testing.T, r api.Run, meter int) int {
	t.Helper()
	return valueOf[int](t, r, "Right")(counts.Right(r, meter))
}

func readsOf(t *testing.T, r api.Run, limit int) api.Span {
	t.Helper()
	return valueOf[api.Span](t, r, "Reads")(counts.Reads(r, limit))
}

func manyOf(t *testing.T, r api.Run) int {
	t.Helper()
	return valueOf[int](t, r, "Many")(counts.Many(r))
}

func stoodOf(t *testing.T, r api.Run) int {
	t.Helper()
	return valueOf[int](t, r, "Stood")(counts.Stood(r))
}

func harmOf(t *testing.T, r api.Run) api.Span {
	t.Helper()
	return valueOf[api.Span](t, r, "Harm")(counts.Harm(r))
}

func fewestOf(t *testing.T, r api.Run) int {
	t.Helper()
	return valueOf[int](t, r, "Fewest")(counts.Fewest(r))
}

// isWithin tells whether all elements of a list are elements of another one.
func isWithin(list, other []int) bool {
	return !slices.ContainsFunc(list, func(n int) bool { return !slices.Contains(other, n) })
}

func within(n int, s api.Span) bool { return s.Low <= n && n <= s.High }

// isIn tells whether all of a span is in another one.
func isIn(a, b api.Span) bool { return b.Low <= a.Low && a.High <= b.High }

// truth draws a truth of a dome.
func (x random) truth(d api.Canopy) dome {
	lifts := allLifts(d.Frame)
	one := dome{lift: lifts[x.IntN(len(lifts))]}
	for _, s := range d.Ribs {
		one.strengths = append(one.strengths, x.in(s))
	}
	return one
}

// truths draws cases that are part of a truth: of some tries those that are, and what Show returns.
func (x random) truths(r api.Run, tries int) [][]int {
	shown, _ := counts.Show(r)
	list := [][]int{shown}
	for range tries {
		if forces := x.forces(r); len(wrongMeters(r, forces)) <= r.Wrong {
			list = append(list, forces)
		}
	}
	return list
}

func TestP13_10EachTruth(t *testing.T) {
	x := newRandom(10)
	met := map[string]int{}
	for _, r := range drawn(10, 40) {
		m := model{r: r}
		var blows [][]int
		for i := range r.Blows {
			blows = append(blows, forcesOf(t, r, i))
		}
		harm := harmOf(t, r)
		for _, forces := range x.truths(r, 20) {
			for i, l := range blows {
				if !slices.Contains(l, forces[i]) {
					t.Errorf("%+v: Forces of %d = %v, but it can be %v", r, i, l, forces)
				}
			}
			wrong := wrongMeters(r, forces)
			for i := range r.Meters {
				right := rightOf(t, r, i)
				if is := slices.Contains(wrong, i); right == api.Surely && is || right == api.Never && !is {
					t.Errorf("%+v: Right of %d = %d, but it can be %v", r, i, right, forces)
				}
				count(met, map[string]bool{"surely": right == api.Surely, "never": right == api.Never})
			}
			for _, limit := range []int{0, 99, x.IntN(100), x.near(r)} {
				if s := readsOf(t, r, limit); !within(counted(forces, limit), s) {
					t.Errorf("%+v: Reads of %d = %v, but it can be %v", r, limit, s, forces)
				}
			}
			one := x.truth(r.Canopy)
			if n := m.broken(one, forces); !within(n, harm) {
				t.Errorf("%+v: Harm = %v, but %d are broken in %+v with %v", r, harm, n, one, forces)
			}
			count(met, map[string]bool{"some harm": harm.Low < harm.High, "some forces": len(forces) > 3})
		}
	}
	wantMet(t, met, 100, "surely", "never", "some harm", "some forces")
}

// near draws a limit near to the forces of a run.
func (x random) near(r api.Run) int {
	if len(r.Blows) == 0 {
		return x.IntN(100)
	}
	s := r.Blows[x.IntN(len(r.Blows))].Force
	return x.from(s.Low, min(api.MaxForce, s.High+1))
}

func TestP13_11OneMeterMore(t *testing.T) {
	x := newRandom(11)
	met := map[string]int{}
	for _, was := range drawn(11, 40) {
		if len(was.Meters) == api.MaxMeters {
			continue
		}
		is := with(was, was.Wrong, x.meter(x.forces(was), x.near(was), 30))
		x.Shuffle(len(is.Meters), func(i, k int) { is.Meters[i], is.Meters[k] = is.Meters[k], is.Meters[i] })
		if !isOpen(is) {
			met["no truth"]++
			continue
		}
		if manyOf(t, is) > manyOf(t, was) {
			t.Errorf("%+v: Many = %d; %+v: %d", was, manyOf(t, was), is, manyOf(t, is))
		}
		count(met, map[string]bool{"fewer cases": manyOf(t, is) < manyOf(t, was), "as many": manyOf(t, is) == manyOf(t, was)})
		for i := range was.Blows {
			before, after := forcesOf(t, was, i), forcesOf(t, is, i)
			if !isWithin(after, before) {
				t.Errorf("%+v: Forces of %d = %v; %+v: %v", was, i, before, is, after)
			}
			count(met, map[string]bool{"fewer forces": len(after) < len(before)})
		}
	}
	wantMet(t, met, 20, "no truth", "fewer cases", "as many", "fewer forces")
}

func TestP13_11MoreWrong(t *testing.T) {
	met := map[string]int{}
	for _, was := range drawn(12, 40) {
		for was.Wrong < api.MaxMeters {
			is := was
			is.Wrong++
			if manyOf(t, is) < manyOf(t, was) {
				t.Errorf("%+v: Many = %d; %+v: %d", was, manyOf(t, was), is, manyOf(t, is))
			}
			count(met, map[string]bool{"more cases": manyOf(t, is) > manyOf(t, was)})
			for i := range was.Blows {
				before, after := forcesOf(t, was, i), forcesOf(t, is, i)
				if !isWithin(before, after) {
					t.Errorf("%+v: Forces of %d = %v; %+v: %v", was, i, before, is, after)
				}
				count(met, map[string]bool{"more forces": len(after) > len(before)})
			}
			was = is
		}
	}
	wantMet(t, met, 20, "more cases", "more forces")
}

func TestP13_12TheLiars(t *testing.T) {
	x := newRandom(12)
	met := map[string]int{}
	for _, z := range sizes() {
		for range min(z.many, 60) {
			r := x.run(z)
			fewest := fewestOf(t, r)
			for wrong := range 6 {
				r.Wrong = wrong
				if many, e := counts.Many(r); (e == api.OK) != (fewest <= wrong) || (many > 0) != (fewest <= wrong) || e != api.OK && e != api.ErrNone {
					t.Errorf("%+v: Fewest = %d; Many = %d, error %d", r, fewest, many, e)
				}
				never := 0
				for i := range r.Meters {
					if n, e := counts.Right(r, i); e == api.OK && n == api.Never {
						never++
					}
				}
				if never > wrong {
					t.Errorf("%+v: %d meters are never right", r, never)
				}
				count(met, map[string]bool{"some are never right": never > 0, "all that may be are never right": wrong > 1 && never == wrong})
			}
			for i := range r.Meters {
				without := r
				without.Meters = slices.Delete(slices.Clone(r.Meters), i, i+1)
				n := fewestOf(t, without)
				if n > fewest || n < fewest-1 {
					t.Errorf("%+v: Fewest = %d; without the meter %d: %d", r, fewest, i, n)
				}
				count(met, map[string]bool{"less": n < fewest, "not less": n == fewest && n > 0})
			}
		}
	}
	wantMet(t, met, 20, "some are never right", "all that may be are never right", "less", "not less")
}

func TestP13_13AGoodMeter(t *testing.T) {
	met := map[string]int{}
	for _, was := range drawn(13, 15) {
		if len(was.Meters) == api.MaxMeters {
			continue
		}
		for _, limit := range limits(was) {
			s := readsOf(t, was, limit)
			if s.Low < s.High {
				met["more numbers"]++
				continue
			}
			is := with(was, was.Wrong, meter(limit, s.Low))
			blows, meters := inOrder(len(was.Blows)), inOrder(len(was.Meters))
			wantSame(t, was, is, everything(was, blows, meters, limits(was)), everything(is, blows, meters, limits(was)))
			if right := rightOf(t, is, len(was.Meters)); right != api.Surely {
				t.Errorf("%+v: Right of the last = %d", is, right)
			}
			count(met, map[string]bool{"one number": within(s.Low, span(1, len(was.Blows)-1))})
		}
	}
	wantMet(t, met, 100, "one number", "more numbers")
}

// everything is what is said of a run, of its blows and meters in some order, and of limits.
func everything(r api.Run, blows, meters, limits []int) []answer {
	all := slices.Concat(ofRun(r), ofTruth(r))
	for _, i := range blows {
		all = append(all, ofQuestion(r, question{blow: i})[0])
	}
	for _, i := range meters {
		all = append(all, ofQuestion(r, question{meter: i})[1])
	}
	for _, limit := range limits {
		all = append(all, ofQuestion(r, question{limit: limit})[2])
	}
	return all
}

// inOrder are so many numbers from 0 on.
func inOrder(many int) []int {
	var list []int
	for i := range many {
		list = append(list, i)
	}
	return list
}

// wantSame wants that all is the same of two runs, but for the truth that is shown.
func wantSame(t *testing.T, was, is api.Run, before, after []answer) {
	t.Helper()
	for i, a := range before {
		if b := after[i]; a.name != "Show" && !same(a, b) {
			t.Errorf("%+v: %s = %v, error %d; %+v: %v, error %d", was, a.name, a.value, a.e, is, b.value, b.e)
		}
	}
	wantShown(t, is)
}

// same tells whether two answers are the same.
func same(a, b answer) bool {
	if list, ok := a.value.([]int); ok {
		other, also := b.value.([]int)
		return also && a.e == b.e && slices.Equal(list, other)
	}
	return a.value == b.value && a.e == b.e
}

func TestP13_13GreaterLimits(t *testing.T) {
	met := map[string]int{}
	for _, r := range drawn(14, 10) {
		before := readsOf(t, r, 0)
		if before != span(len(r.Blows), len(r.Blows)) {
			t.Errorf("%+v: Reads of 0 = %v", r, before)
		}
		for limit := 1; limit <= api.MaxForce; limit++ {
			after := readsOf(t, r, limit)
			if after.Low > before.Low || after.High > before.High {
				t.Errorf("%+v: Reads of %d = %v, before it %v", r, limit, after, before)
			}
			count(met, map[string]bool{"less at the low end": after.Low < before.Low, "less at the high end": after.High < before.High})
			before = after
		}
	}
	wantMet(t, met, 50, "less at the low end", "less at the high end")
}

func TestP13_14TheDome(t *testing.T) {
	x := newRandom(14)
	met := map[string]int{}
	for _, r := range drawn(15, 60) {
		stood, harm := stoodOf(t, r), harmOf(t, r)
		if (stood == api.Surely) != (harm.High == 0) || (stood == api.Never) != (harm.Low > 0) {
			t.Errorf("%+v: Stood = %d, Harm = %v", r, stood, harm)
		}
		count(met, map[string]bool{"surely": stood == api.Surely && len(r.Blows) > 0, "never": stood == api.Never, "perhaps": stood == api.Perhaps})
		strong := copied(r)
		for range x.from(1, 4) {
			s := &strong.Canopy.Ribs[x.IntN(len(strong.Canopy.Ribs))]
			s.High = min(api.MaxStrength, s.High+x.IntN(1+s.High/3))
			s.Low = x.in(*s)
		}
		after := harmOf(t, strong)
		if after.Low > harm.Low || after.High > harm.High {
			t.Errorf("%+v: Harm = %v; %+v: %v", r, harm, strong.Canopy.Ribs, after)
		}
		count(met, map[string]bool{"less at the low end": after.Low < harm.Low, "less at the high end": after.High < harm.High})
	}
	wantMet(t, met, 20, "surely", "never", "perhaps", "less at the low end", "less at the high end")
}

func TestP13_15AnyOrder(t *testing.T) {
	x := newRandom(15)
	met := map[string]int{}
	for _, was := range drawn(16, 30) {
		blows, meters, is := x.Perm(len(was.Blows)), x.Perm(len(was.Meters)), copied(was)
		for i, k := range blows {
			is.Blows[i] = was.Blows[k]
		}
		for i, k := range meters {
			is.Meters[i] = was.Meters[k]
		}
		before := everything(was, blows, meters, limits(was))
		wantSame(t, was, is, before, everything(is, inOrder(len(blows)), inOrder(len(meters)), limits(was)))
		count(met, map[string]bool{"another order of blows": !slices.IsSorted(blows), "another order of meters": !slices.IsSorted(meters)})
	}
	wantMet(t, met, 20, "another order of blows", "another order of meters")
}

// greatest are the blows of a run as gusts, each with the greatest force that it can have.
func greatest(t *testing.T, r api.Run) []api.Gust {
	t.Helper()
	var class []api.Gust
	for i, b := range r.Blows {
		class = append(class, api.Gust{Force: slices.Max(forcesOf(t, r, i)), At: b.At})
	}
	return class
}

func TestP0_6TheTestThatWasStood(t *testing.T) {
	met := map[string]int{}
	for _, r := range drawn(17, 60) {
		allowed, atMost := true, false
		for _, g := range greatest(t, r) {
			most := valueOf[int](t, r, "Most")(gusts.Most(r.Canopy, g.At))
			allowed, atMost = allowed && g.Force <= most, atMost || g.Force == most
		}
		stood := stoodOf(t, r)
		if (stood == api.Surely) != allowed {
			t.Errorf("%+v: Stood = %d, but %v", r, stood, greatest(t, r))
		}
		count(met, map[string]bool{"stood": allowed && len(r.Blows) > 0, "just stood": allowed && atMost, "not stood": !allowed})
	}
	wantMet(t, met, 20, "stood", "just stood", "not stood")
}

func TestP0_7TheDomeThatIsMended(t *testing.T) {
	met := map[string]int{}
	for _, r := range drawn(18, 60) {
		weak := valueOf[[]int](t, r, "Weak")(gusts.Weak(r.Canopy, greatest(t, r)))
		strong := copied(r)
		for _, rib := range weak {
			strong.Canopy.Ribs[rib] = span(api.MaxStrength, api.MaxStrength)
		}
		if stood := stoodOf(t, strong); stood != api.Surely {
			t.Errorf("%+v: Stood = %d with all of %v strong", r, stood, weak)
		}
		for _, rib := range weak {
			left := copied(strong)
			left.Canopy.Ribs[rib] = r.Canopy.Ribs[rib]
			if stood := stoodOf(t, left); stood == api.Surely {
				t.Errorf("%+v: Stood = %d with all of %v strong but %d", r, stood, weak, rib)
			}
		}
		count(met, map[string]bool{"none": len(weak) == 0 && len(r.Blows) > 0, "one": len(weak) == 1, "some": len(weak) > 1 && len(weak) < len(r.Canopy.Ribs), "all": len(weak) == len(r.Canopy.Ribs)})
	}
	wantMet(t, met, 20, "none", "one", "some", "all")
}

// narrower draws a span within another one.
func (x random) narrower(s api.Span) api.Span {
	low := x.in(s)
	return span(low, x.from(low, s.High))
}

// isLess tells whether a fraction is less than another one.
func isLess(a, b api.Frac) bool { return a.Num*b.Den < b.Num*a.Den }

func TestP0_8TheFinerFrame(t *testing.T) {
	x := newRandom(18)
	met := map[string]int{}
	for _, was := range drawn(19, 60) {
		is := copied(was)
		s := &is.Canopy.Frame.Sections[0]
		s.Arm, s.Stretch = x.narrower(s.Arm), x.narrower(s.Stretch)
		for _, r := range []int{is.Canopy.Frame.Low, is.Canopy.Frame.High} {
			low, high, e := frames.Cosine(was.Canopy.Frame, 0, r)
			finerLow, finerHigh, f := frames.Cosine(is.Canopy.Frame, 0, r)
			if isLess(finerLow, low) || isLess(high, finerHigh) || e != api.OK || f != api.OK {
				t.Errorf("%+v: Cosine at %d = %v, %v; %+v: %v, %v", was, r, low, high, is, finerLow, finerHigh)
			}
		}
		for _, g := range greatest(t, was) {
			before := valueOf[[]api.Span](t, was, "Loads")(gusts.Loads(was.Canopy, g))
			for rib, load := range valueOf[[]api.Span](t, is, "Loads")(gusts.Loads(is.Canopy, g)) {
				if !isIn(load, before[rib]) {
					t.Errorf("%+v: Loads of %v = %v for the rib %d; %+v: %v", was, g, before[rib], rib, is, load)
				}
				count(met, map[string]bool{"narrower loads": load != before[rib]})
			}
		}
		before, after := harmOf(t, was), harmOf(t, is)
		if !isIn(after, before) {
			t.Errorf("%+v: Harm = %v; %+v: %v", was, before, is, after)
		}
		count(met, map[string]bool{"narrower harm": after != before})
	}
	wantMet(t, met, 20, "narrower loads", "narrower harm")
}
