package seams_test

import (
	"reflect"
	"slices"
	"testing"

	"ferrule/api"
	"ferrule/cloth"
	"ferrule/seams"
)

// waste is that of the best beginnings, and far if there are none.
func waste(f api.Figure) int {
	n, e := seams.Least(f)
	if e != api.OK {
		return far
	}
	return n
}

func closest(f api.Figure) int {
	n, _ := seams.Closest(f)
	return n
}

func bad(f api.Figure) []int {
	all, _ := seams.Bad(f)
	return all
}

func ended(times []int) int {
	n, _ := seams.Soonest(sewing(times...))
	return n
}

// isWithin tells whether all elements of a list are elements of another one.
func isWithin(list, other []int) bool {
	return !slices.ContainsFunc(list, func(n int) bool { return !slices.Contains(other, n) })
}

// drawn are figures of all sizes whose domes have a truth.
func drawn(seed uint64, many int) []api.Figure {
	x := newRandom(seed)
	all := []api.Figure{figureG(), figureH()}
	for _, k := range knowns() {
		all = append(all, k.f)
	}
	for range many {
		for _, z := range []size{{1, 2, 10, 5, 8}, {1, 3, 6, 10, 20}, {1, 4, 20, api.MaxGores, api.MaxPeriod}} {
			f := x.figure(z)
			if len(newModel(f).truths) > 0 {
				all = append(all, f)
			}
		}
	}
	return all
}

// inTruth is a figure whose bolts can stretch by the numbers of a truth alone.
func inTruth(f api.Figure, truth []int) api.Figure {
	f = copied(f)
	for bolt, s := range truth {
		f.Dome.Bolts[bolt] = api.Bolt{Stretch: span(s, s)}
	}
	return f
}

func TestP4_9EachTruth(t *testing.T) {
	x := newRandom(10)
	met := map[int]int{}
	for _, f := range drawn(10, 60) {
		truths := newModel(f).truths
		for seam := range f.Times {
			n, e := seams.Meets(f, seam)
			if isBad := slices.Contains(bad(f), seam); e != api.OK || isBad != (n != api.Surely) {
				t.Errorf("%+v: Meets of %d = %d, error %d; Bad = %v", f, seam, n, e, bad(f))
			}
			for range 5 {
				truth := truths[x.IntN(len(truths))]
				in, e := seams.Meets(inTruth(f, truth), seam)
				if e != api.OK || in == api.Perhaps || n != api.Perhaps && in != n {
					t.Errorf("%+v: Meets of %d = %d, but %d, error %d in the truth %v", f, seam, n, in, e, truth)
				}
				met[n]++
			}
		}
	}
	for _, n := range []int{api.Surely, api.Never, api.Perhaps} {
		if met[n] < 200 {
			t.Errorf("%d: %d", n, met[n])
		}
	}
}

// eachStarts goes through all starts that the gores of a figure can have.
func eachStarts(f api.Figure, visit func(starts []int)) {
	starts := make([]int, len(f.Starts))
	for {
		visit(starts)
		gore := 0
		for ; gore < len(starts) && starts[gore] == f.Period-1; gore++ {
			starts[gore] = 0
		}
		if gore == len(starts) {
			return
		}
		starts[gore]++
	}
}

func TestP4_10TheLeastWaste(t *testing.T) {
	x := newRandom(11)
	found := 0
	for range 400 {
		f := x.figure(size{1, 2, 8, 4, 6})
		f.Near = min(f.Near, x.IntN(2))
		if len(newModel(f).truths) == 0 {
			continue
		}
		least := far
		eachStarts(f, func(starts []int) {
			if len(bad(starting(f, starts...))) == 0 {
				least = min(least, sum(starts))
			}
		})
		if waste(f) != least {
			t.Errorf("%+v: Least = %d, want %d", f, waste(f), least)
		}
		if least > 0 && least < far {
			found++
		}
	}
	if found < 20 {
		t.Errorf("%d with some waste", found)
	}
}

func TestP4_10Beginnings(t *testing.T) {
	for _, f := range drawn(12, 60) {
		starts, e := seams.Begin(f)
		if e == api.ErrNone {
			continue
		}
		least := waste(f)
		if e != api.OK || sum(starts) != least || len(starts) != len(f.Starts) {
			t.Errorf("%+v: Begin = %v, error %d; Least = %d", f, starts, e, least)
		}
		wantBeginnings(t, f, starts)
		// beginnings that are moved are some too
		for by := range f.Period {
			m := moved(starting(f, starts...), by)
			wantBeginnings(t, f, m.Starts)
			if sum(m.Starts) < least {
				t.Errorf("%+v: Least = %d, but %v", f, least, m.Starts)
			}
		}
	}
}

func TestP4_11ANearerMeasure(t *testing.T) {
	less := 0
	for _, f := range drawn(13, 30) {
		before := far
		var all []int
		for near := range f.Period/2 + 1 {
			f.Near = near
			least := waste(f)
			if least > before || near > 0 && !isWithin(bad(f), all) {
				t.Errorf("%+v: Least = %d after %d, Bad = %v after %v", f, least, before, bad(f), all)
			}
			if least < before && before < far {
				less++
			}
			if (least < far) != (near >= closest(f)) {
				t.Errorf("%+v: Least = %d, Closest = %d", f, least, closest(f))
			}
			before, all = least, bad(f)
		}
	}
	if less < 50 {
		t.Errorf("%d with less waste", less)
	}
}

// turnedBy is a list that is counted from another element.
func turnedBy(list []int, by int) []int { return slices.Concat(list[by:], list[:by]) }

func TestP4_12TheRingIsTurned(t *testing.T) {
	x := newRandom(14)
	for _, f := range drawn(14, 60) {
		by := x.IntN(len(f.Starts))
		turned := copied(f)
		turned.Dome.Gores, turned.Starts, turned.Times = turnedBy(f.Dome.Gores, by), turnedBy(f.Starts, by), turnedBy(f.Times, by)
		if waste(turned) != waste(f) || closest(turned) != closest(f) || ended(turned.Times) != ended(f.Times) {
			t.Errorf("%+v: %d, %d, %d; from the gore %d: %d, %d, %d", f, waste(f), closest(f), ended(f.Times), by, waste(turned), closest(turned), ended(turned.Times))
		}
		for seam := range f.Times {
			was, _ := seams.Meets(f, (seam+by)%len(f.Times))
			is, e := seams.Meets(turned, seam)
			if is != was || e != api.OK {
				t.Errorf("%+v: Meets of %d = %d, error %d; want %d", turned, seam, is, e, was)
			}
		}
	}
}

func TestP4_13NoSoonerSchedule(t *testing.T) {
	x := newRandom(15)
	for seams, many := range map[int]int{3: 200, 4: 100, 5: 20} {
		for range many {
			times := x.times(seams, 3)
			if n := ended(times); sooner(times, n) || !sooner(times, n+1) {
				t.Errorf("Soonest of %v = %d", times, n)
			}
		}
	}
}

// Schedules of many seams are drawn, each begun as soon as it can be.
func TestP4_13NoSoonerOrder(t *testing.T) {
	x := newRandom(16)
	as := 0
	for range 300 {
		times := x.times(x.from(3, api.MaxGores), api.MaxSew)
		n := ended(times)
		if n < slices.Max(times) || n > sum(times) {
			t.Errorf("Soonest of %v = %d", times, n)
		}
		for range 5 {
			begins := inOrder(times, x.Perm(len(times)))
			end := endOf(begins, times)
			if end < n || !canBeSewn(begins, times) {
				t.Errorf("Soonest of %v = %d, but %v ends at %d", times, n, begins, end)
			}
			if end == n {
				as++
			}
		}
		begins, e := seams.Plan(sewing(times...))
		if e != api.OK || !canBeSewn(begins, times) || endOf(begins, times) != n {
			t.Errorf("Soonest of %v = %d, but Plan = %v, error %d", times, n, begins, e)
		}
	}
	if as < 50 {
		t.Errorf("%d that end as soon", as)
	}
}

func TestP4_13AllAsLong(t *testing.T) {
	for seams := api.MinGores; seams <= api.MaxGores; seams++ {
		for time := 1; time <= api.MaxSew; time++ {
			if n := ended(slices.Repeat([]int{time}, seams)); n%time != 0 {
				t.Errorf("Soonest of %d seams of %d = %d", seams, time, n)
			}
		}
	}
}

// moved is a figure whose starts are all moved.
func moved(f api.Figure, by int) api.Figure {
	f = copied(f)
	for i := range f.Starts {
		f.Starts[i] = (f.Starts[i] + by) % f.Period
	}
	return f
}

func TestP4_14AllStartsMoved(t *testing.T) {
	for _, f := range drawn(17, 60) {
		for by := range f.Period {
			m := moved(f, by)
			for seam := range f.Times {
				was, _ := seams.Meets(f, seam)
				is, e := seams.Meets(m, seam)
				if is != was || e != api.OK {
					t.Errorf("%+v: Meets of %d = %d; moved by %d: %d, error %d", f, seam, was, by, is, e)
				}
			}
			if !slices.Equal(bad(m), bad(f)) {
				t.Errorf("%+v: Bad = %v; moved by %d: %v", f, bad(f), by, bad(m))
			}
		}
	}
}

func TestP4_15QuickerSeams(t *testing.T) {
	x := newRandom(18)
	sooner := 0
	for range 600 {
		times := x.times(x.from(3, api.MaxGores), 49)
		n := ended(times)
		double := slices.Clone(times)
		for i := range times {
			double[i] *= 2
		}
		if ended(double) != 2*n {
			t.Errorf("Soonest of %v = %d, of %v = %d", times, n, double, ended(double))
		}
		quicker := slices.Clone(times)
		i := x.IntN(len(times))
		quicker[i] = x.from(1, times[i])
		if ended(quicker) > n {
			t.Errorf("Soonest of %v = %d, of %v = %d", times, n, quicker, ended(quicker))
		}
		if ended(quicker) < n {
			sooner++
		}
	}
	if sooner < 50 {
		t.Errorf("%d that end sooner", sooner)
	}
}

// withStrip is a figure with one more strip of a bolt, which says nearly what its others say.
func (x random) withStrip(f api.Figure) api.Figure {
	f = copied(f)
	b := &f.Dome.Bolts[x.IntN(len(f.Dome.Bolts))]
	long := x.from(1, api.MaxWidth)
	length := pulled(long, x.from(b.Stretch.Low, b.Stretch.High))
	b.Strips = slices.Insert(b.Strips, x.from(0, len(b.Strips)), strip(long, max(0, length-x.IntN(6)), length+x.IntN(6)))
	return f
}

func TestP0_9ThePulledStrip(t *testing.T) {
	x := newRandom(19)
	met := map[string]int{}
	for _, f := range drawn(19, 150) {
		more := x.withStrip(f)
		if len(newModel(more).truths) == 0 {
			continue
		}
		was, e := cloth.Loose(f.Dome)
		is, g := cloth.Loose(more.Dome)
		if !isWithin(is, was) || e != api.OK || g != api.OK {
			t.Errorf("%+v: Loose = %v, error %d; with one more strip %v, error %d", f, was, e, is, g)
		}
		if !isWithin(bad(more), bad(f)) || waste(more) > waste(f) || closest(more) > closest(f) {
			t.Errorf("%+v: Bad = %v, Least = %d, Closest = %d; %+v: %v, %d, %d", f, bad(f), waste(f), closest(f), more, bad(more), waste(more), closest(more))
		}
		for name, less := range map[string]bool{
			"Loose": len(is) < len(was), "Bad": len(bad(more)) < len(bad(f)), "Least": waste(more) < waste(f), "Closest": closest(more) < closest(f),
		} {
			if less {
				met[name]++
			}
		}
	}
	for _, name := range []string{"Loose", "Bad", "Least", "Closest"} {
		if met[name] < 5 {
			t.Errorf("%d with less %s", met[name], name)
		}
	}
}

func TestP0_10TheKnownCloth(t *testing.T) {
	x := newRandom(20)
	exactly := 0
	for _, f := range drawn(20, 150) {
		truths := newModel(f).truths
		truth := truths[x.IntN(len(truths))]
		f = inTruth(f, truth)
		for seam := range f.Times {
			if n, e := seams.Meets(f, seam); n == api.Perhaps || e != api.OK {
				t.Errorf("%+v: Meets of %d = %d, error %d", f, seam, n, e)
			}
		}
		for row := range f.Dome.Rounds {
			if n, e := cloth.Tight(f.Dome, row); n == api.Perhaps || e != api.OK {
				t.Errorf("%+v: Tight of %d = %d, error %d", f, row, n, e)
			}
		}
		runs := 0
		for _, bolt := range f.Dome.Gores {
			runs += pulled(f.Run, truth[bolt])
		}
		if (closest(f) == 0) != (runs%f.Period == 0) {
			t.Errorf("%+v: Closest = %d, but all runs are %d", f, closest(f), runs)
		}
		if closest(f) == 0 {
			exactly++
		}
	}
	if exactly < 30 {
		t.Errorf("%d that meet without any difference", exactly)
	}
}

func TestP0_11TheDomeThatIsCutAnew(t *testing.T) {
	many := 0
	for _, f := range drawn(21, 150) {
		widths, e := cloth.Curve(f.Dome)
		if e != api.OK {
			continue
		}
		anew := copied(f)
		anew.Dome.Widths = widths
		if loose, e := cloth.Loose(anew.Dome); len(loose) > 0 || e != api.OK {
			t.Errorf("%+v: Loose = %v, error %d", anew, loose, e)
		}
		for seam := range f.Times {
			was, is := allOf(f, seam), allOf(anew, seam)
			for i := range was {
				if !reflect.DeepEqual(was[i], is[i]) {
					t.Errorf("%+v: %s = %v, error %d; cut to %v: %v, error %d", f, was[i].name, was[i].value, was[i].e, widths, is[i].value, is[i].e)
				}
			}
		}
		if !slices.Equal(widths, f.Dome.Widths) {
			many++
		}
	}
	if many < 30 {
		t.Errorf("%d that are cut anew", many)
	}
}
