package counts_test

import (
	"slices"
	"testing"

	"ferrule/api"
	"ferrule/counts"
)

func section(arm, stretch api.Span, base int, gear api.Frac) api.Section {
	return api.Section{Arm: arm, Stretch: stretch, Base: base, Gear: gear}
}

// domeD is the dome D of the chapter 5: met at the rib 0, it surely stands the force
// 13 and less, never 16 and more.
func domeD() api.Canopy {
	return api.Canopy{
		Frame: api.Frame{
			Sections: []api.Section{
				section(span(50, 52), span(60, 60), 0, api.Frac{Num: 1, Den: 1}),
				section(span(40, 40), span(45, 46), 5, api.Frac{Num: 1, Den: 2}),
			},
			Low: 20, High: 100, Ease: api.Frac{Num: 1, Den: 20}, Rod: 300, Case: 351,
		},
		Ribs:   []api.Span{span(100, 110), span(60, 60), span(50, 55), span(40, 40), span(50, 50), span(60, 60)},
		Shares: []int{10, 6, 3, 1, 3, 6},
	}
}

// runR, runQ and runP are R, Q and P of the chapter's examples.
func runR() api.Run {
	return blown(blow(0, 10, 14), blow(0, 12, 15), blow(3, 4, 6))(0, meter(13, 1), meter(5, 3))
}

func runQ() api.Run { return with(runR(), 0, meter(16, 1)) }

func runP() api.Run { return with(runR(), 1, meter(16, 1)) }

// blown gives what makes runs of blows against D: by how many meters may be wrong, and by meters.
func blown(blows ...api.Blow) func(wrong int, meters ...api.Meter) api.Run {
	return func(wrong int, meters ...api.Meter) api.Run {
		return api.Run{Canopy: domeD(), Blows: blows, Meters: meters, Wrong: wrong}
	}
}

// with is a run with more meters, so many of which may be wrong.
func with(r api.Run, wrong int, more ...api.Meter) api.Run {
	r.Meters, r.Wrong = slices.Concat(r.Meters, more), wrong
	return r
}

func TestExamples(t *testing.T) {
	wantFewest(t, runR(), 0)
	wantFewest(t, runQ(), 1)
	wantForces(t, runR(), 0, 10, 11, 12, 13, 14)
	wantForces(t, runR(), 1, 12, 13, 14, 15)
	wantForces(t, runR(), 2, 5, 6)
	wantMany(t, runR(), 22)
	wantMany(t, runP(), 22)
	wantErrors(t, "Q", slices.Concat(ofQuestion(runQ(), question{}), ofTruth(runQ())), api.ErrNone)
	wantRight(t, runR(), 0, api.Surely)
	wantRight(t, runP(), 0, api.Surely)
	wantRight(t, runP(), 2, api.Never)
	for limit, want := range map[int]api.Span{14: span(0, 1), 13: span(1, 1), 5: span(3, 3), 4: span(3, 3)} {
		wantReads(t, runR(), limit, want)
	}
	wantHarm(t, runR(), api.Perhaps, span(0, 2))
	wantShown(t, runR())
	wantShown(t, runP())
}

func wantFewest(t *testing.T, r api.Run, want int) {
	t.Helper()
	if n, e := counts.Fewest(r); n != want || e != api.OK {
		t.Errorf("%+v: Fewest = %d, error %d; want %d", r, n, e, want)
	}
}

func wantForces(t *testing.T, r api.Run, blow int, want ...int) {
	t.Helper()
	if l, e := counts.Forces(r, blow); !slices.Equal(l, want) || e != api.OK {
		t.Errorf("%+v: Forces of %d = %v, error %d; want %v", r, blow, l, e, want)
	}
}

func wantRight(t *testing.T, r api.Run, meter, want int) {
	t.Helper()
	if n, e := counts.Right(r, meter); n != want || e != api.OK {
		t.Errorf("%+v: Right of %d = %d, error %d; want %d", r, meter, n, e, want)
	}
}

func wantReads(t *testing.T, r api.Run, limit int, want api.Span) {
	t.Helper()
	if s, e := counts.Reads(r, limit); s != want || e != api.OK {
		t.Errorf("%+v: Reads of %d = %v, error %d; want %v", r, limit, s, e, want)
	}
}

func wantMany(t *testing.T, r api.Run, want int) {
	t.Helper()
	if n, e := counts.Many(r); n != want || e != api.OK {
		t.Errorf("%+v: Many = %d, error %d; want %d", r, n, e, want)
	}
}

// wantHarm wants what is known of whether the dome stands all blows, and how many it does not stand.
func wantHarm(t *testing.T, r api.Run, stood int, harm api.Span) {
	t.Helper()
	if n, e := counts.Stood(r); n != stood || e != api.OK {
		t.Errorf("%+v: Stood = %d, error %d; want %d", r, n, e, stood)
	}
	if s, e := counts.Harm(r); s != harm || e != api.OK {
		t.Errorf("%+v: Harm = %v, error %d; want %v", r, s, e, harm)
	}
}

// wantShown wants a case in which no more meters are wrong than may be.
func wantShown(t *testing.T, r api.Run) {
	t.Helper()
	forces, e := counts.Show(r)
	if e != api.OK || !isCase(r, forces) || len(wrongMeters(r, forces)) > r.Wrong {
		t.Errorf("%+v: Show = %v, error %d", r, forces, e)
	}
}

func isCase(r api.Run, forces []int) bool {
	if len(forces) != len(r.Blows) {
		return false
	}
	for i, b := range r.Blows {
		if forces[i] < b.Force.Low || forces[i] > b.Force.High {
			return false
		}
	}
	return true
}

func TestP13_2Fewest(t *testing.T) {
	none, one, two := blown(), blown(blow(0, 10, 14)), blown(blow(0, 10, 14), blow(3, 12, 15))
	wantFewest(t, none(0), 0)
	wantFewest(t, one(0), 0)
	wantFewest(t, none(0, meter(50, 0), meter(0, 0)), 0)
	wantFewest(t, none(0, meter(50, 1), meter(0, 8)), 2)
	wantFewest(t, one(0, meter(15, 0), meter(10, 1)), 0)
	wantFewest(t, one(0, meter(14, 1), meter(11, 0)), 1)
	wantFewest(t, one(0, meter(15, 1), meter(10, 0)), 2)
	// a gust is counted with a force of just the limit
	wantFewest(t, blown(blow(0, 20, 20))(0, meter(20, 1), meter(21, 0), meter(19, 1)), 0)
	wantFewest(t, blown(blow(0, 20, 20))(0, meter(20, 0), meter(21, 1), meter(19, 0)), 3)
	wantFewest(t, blown(blow(0, 0, 0), blow(0, 99, 99))(0, meter(0, 2), meter(1, 1), meter(99, 1)), 0)
	// each meter alone can be right, but not all together
	wantFewest(t, two(0, meter(13, 1), meter(14, 2)), 1)
	wantFewest(t, two(0, meter(12, 1), meter(14, 1), meter(13, 2)), 1)
	wantFewest(t, two(0, meter(13, 1), meter(13, 2), meter(13, 0)), 2)
	wantFewest(t, two(0, meter(11, 2), meter(15, 2)), 1)
	// equal ones are counted each for itself
	wantFewest(t, two(0, meter(13, 1), meter(13, 2), meter(13, 2)), 1)
	wantFewest(t, two(0, meter(13, 1), meter(13, 1), meter(13, 1), meter(13, 2), meter(13, 2)), 2)
	wantFewest(t, most(), 0)
	for wrong := range 6 { // Wrong does not matter
		wantFewest(t, with(runR(), wrong), 0)
		wantFewest(t, with(runQ(), wrong), 1)
		wantFewest(t, two(wrong, meter(0, 3), meter(99, 1), meter(50, 8), meter(11, 0), meter(15, 2)), 5)
	}
}

func TestP13_3Forces(t *testing.T) {
	one, two := blown(blow(0, 10, 14)), blown(blow(0, 10, 14), blow(3, 12, 15))
	wantForces(t, one(0), 0, 10, 11, 12, 13, 14)
	wantForces(t, one(0, meter(13, 1)), 0, 13, 14)
	wantForces(t, one(0, meter(13, 0)), 0, 10, 11, 12)
	wantForces(t, one(0, meter(14, 1)), 0, 14)
	wantForces(t, one(0, meter(11, 0)), 0, 10)
	wantForces(t, one(0, meter(11, 1), meter(13, 0)), 0, 11, 12)
	wantForces(t, one(1, meter(15, 1)), 0, 10, 11, 12, 13, 14)
	// one of two meters is wrong, whichever it is
	wantForces(t, one(1, meter(11, 0), meter(14, 1)), 0, 10, 14)
	wantForces(t, one(1, meter(12, 0), meter(14, 1)), 0, 10, 11, 14)
	wantForces(t, one(2, meter(11, 0), meter(14, 1)), 0, 10, 11, 12, 13, 14)
	wantForces(t, one(1, meter(11, 0), meter(14, 1), meter(14, 1)), 0, 14)
	// what one blow had says what the other one had
	wantForces(t, two(0, meter(14, 2)), 0, 14)
	wantForces(t, two(0, meter(14, 2)), 1, 14, 15)
	wantForces(t, two(0, meter(15, 1)), 0, 10, 11, 12, 13, 14)
	wantForces(t, two(0, meter(15, 1)), 1, 15)
	wantForces(t, two(0, meter(12, 1)), 0, 10, 11)
	wantForces(t, two(0, meter(12, 1)), 1, 12, 13, 14, 15)
	wantForces(t, two(0, meter(14, 1), meter(12, 2)), 0, 12, 13, 14)
	wantForces(t, blown(blow(0, 0, 9), blow(0, 90, 99))(0, meter(99, 1), meter(1, 1)), 0, 0)
	wantForces(t, blown(blow(0, 0, 9), blow(0, 90, 99))(0, meter(99, 1), meter(1, 1)), 1, 99)
	wantForces(t, with(runR(), 1), 2, 4, 5, 6)
	wantForces(t, most(), 7, 90, 91, 92, 93, 94, 95, 96, 97, 98, 99)
	r := most()
	r.Wrong = 4
	wantForces(t, r, 0, 99)
}

func TestP13_4Right(t *testing.T) {
	one := blown(blow(0, 10, 14))
	wantRight(t, one(0, meter(12, 1)), 0, api.Surely)
	wantRight(t, one(1, meter(12, 1)), 0, api.Perhaps)
	// no force makes it wrong, nor right
	wantRight(t, one(5, meter(10, 1)), 0, api.Surely)
	wantRight(t, one(5, meter(15, 0)), 0, api.Surely)
	wantRight(t, one(1, meter(10, 0)), 0, api.Never)
	wantRight(t, one(1, meter(12, 2)), 0, api.Never)
	for wrong, rights := range map[int][]int{
		1: {api.Never, api.Surely, api.Surely, api.Surely}, // 14 alone
		2: {api.Never, api.Surely, api.Surely, api.Perhaps},
		3: {api.Perhaps, api.Perhaps, api.Perhaps, api.Perhaps},
	} {
		for i, right := range rights {
			wantRight(t, one(wrong, meter(12, 0), meter(13, 1), meter(13, 1), meter(14, 1)), i, right)
		}
	}
	r := one(1, meter(11, 0), meter(14, 1), meter(10, 1))
	for i, right := range []int{api.Perhaps, api.Perhaps, api.Surely} {
		wantRight(t, r, i, right)
	}
	for wrong, rights := range [][]int{{api.Surely, api.Surely}, {api.Perhaps, api.Perhaps}, {api.Perhaps, api.Perhaps}} {
		for i, right := range rights {
			wantRight(t, with(runR(), wrong), i, right)
		}
	}
	for i, right := range []int{api.Surely, api.Surely, api.Never} {
		wantRight(t, runP(), i, right)
	}
	wantRight(t, blown()(1, meter(0, 0), meter(0, 1)), 0, api.Surely)
	wantRight(t, blown()(1, meter(0, 0), meter(0, 1)), 1, api.Never)
	// the last of as many meters as can be
	wantRight(t, with(runR(), 1, meter(4, 3), meter(7, 2), meter(99, 8)), 4, api.Never)
	wantRight(t, most(), 4, api.Perhaps)
}

func TestP13_5Reads(t *testing.T) {
	for limit, want := range map[int]api.Span{
		0: span(3, 3), 6: span(2, 3), 7: span(2, 2), 10: span(2, 2), 11: span(1, 2), 12: span(1, 2), 15: span(0, 1), 16: span(0, 0), 99: span(0, 0),
	} {
		wantReads(t, runR(), limit, want)
	}
	for limit := range 100 {
		wantReads(t, least(), limit, span(0, 0))
		one := span(0, 0)
		if limit <= 20 {
			one = span(1, 1)
		}
		wantReads(t, blown(blow(0, 20, 20))(0), limit, one)
	}
	wantReads(t, most(), 90, span(8, 8))
	wantReads(t, most(), 91, span(0, 8))
	wantReads(t, most(), 99, span(0, 8))
	r := most()
	r.Wrong = 0
	wantReads(t, r, 99, span(8, 8))
	// the blows are not independent: one of both is at least 13
	two := blown(blow(0, 10, 14), blow(3, 12, 15))
	wantReads(t, two(0, meter(13, 1)), 14, span(0, 1))
	wantReads(t, two(0, meter(13, 1)), 12, span(1, 2))
	wantReads(t, two(0, meter(12, 1)), 15, span(0, 1))
	wantReads(t, two(1, meter(12, 1)), 12, span(1, 2))
	// truths in which a wrong meter leaves nothing between
	wantReads(t, blown(blow(0, 10, 14), blow(0, 10, 14))(1, meter(12, 0), meter(12, 2)), 12, span(0, 2))
}

func TestP13_6Many(t *testing.T) {
	wantMany(t, blown()(0), 1)
	wantMany(t, blown()(2, meter(0, 8), meter(9, 1)), 1)
	two := blown(blow(0, 10, 14), blow(3, 12, 15))
	wantMany(t, two(0), 20)
	wantMany(t, two(0, meter(13, 1)), 2*1+3*3)
	wantMany(t, two(0, meter(13, 0)), 3)
	wantMany(t, two(0, meter(13, 2)), 6)
	wantMany(t, two(1, meter(13, 2), meter(13, 0)), 9)
	wantMany(t, two(2, meter(13, 2), meter(13, 0)), 20)
	wantMany(t, two(0, meter(13, 1), meter(13, 1)), 11)
	wantMany(t, with(runR(), 1), 51)
	wantMany(t, with(runR(), 2), 60)
	wantMany(t, with(runR(), 5), 60)
	// what is so in the dome does not matter
	r := runR()
	r.Canopy.Ribs[3] = span(0, 99999)
	wantMany(t, r, 22)
	// eight blows have at most a hundred million cases; 70 ways to choose four of them
	eight := blown(slices.Repeat([]api.Blow{blow(2, 10, 19)}, 8)...)
	wantMany(t, eight(0), 100000000)
	wantMany(t, eight(0, meter(15, 4)), 70*390625)
	wantMany(t, eight(0, meter(15, 4), meter(19, 4)), 70*625)
	wantMany(t, eight(1, meter(15, 4), meter(15, 0)), 71*390625)
	// 1 blow of 10, 2 of 11 to 12, 1 of 13 to 14, 2 of 15 to 16, 1 of 17 to 18, and 1 of 19
	wantMany(t, eight(0, meter(11, 7), meter(13, 5), meter(15, 4), meter(17, 2), meter(19, 1)), 40320/4*64)
	wantMany(t, most(), 100000000)
}

func TestP13_7Stood(t *testing.T) {
	one := blown(blow(0, 12, 17))
	wantHarm(t, one(0), api.Perhaps, span(0, 1))
	wantHarm(t, one(0, meter(14, 0)), api.Surely, span(0, 0))
	wantHarm(t, one(0, meter(15, 0)), api.Perhaps, span(0, 1))
	wantHarm(t, one(0, meter(15, 1)), api.Perhaps, span(0, 1))
	wantHarm(t, one(0, meter(16, 1)), api.Never, span(1, 1))
	wantHarm(t, one(1, meter(16, 1)), api.Perhaps, span(0, 1))
	// with forces that are known, the dome alone is not
	for force, stood := range map[int]int{13: api.Surely, 14: api.Perhaps, 15: api.Perhaps, 16: api.Never} {
		harm := map[int]api.Span{api.Surely: span(0, 0), api.Perhaps: span(0, 1), api.Never: span(1, 1)}
		wantHarm(t, blown(blow(0, force, force))(0), stood, harm[stood])
	}
	wantHarm(t, blown()(0), api.Surely, span(0, 0))
	wantHarm(t, least(), api.Surely, span(0, 0))
	wantHarm(t, most(), api.Surely, span(0, 0))
	// each blow alone can be stood, but not all of them
	wantHarm(t, blown(blow(0, 13, 16), blow(0, 13, 16))(0, meter(16, 1)), api.Never, span(1, 2))
	wantHarm(t, blown(blow(0, 13, 16), blow(0, 13, 16))(1, meter(16, 1)), api.Perhaps, span(0, 2))
	// another rib is met
	wantHarm(t, blown(blow(3, 5, 5))(0), api.Surely, span(0, 0))
	wantHarm(t, blown(blow(3, 6, 6))(0), api.Perhaps, span(0, 1))
	wantHarm(t, blown(blow(3, 7, 7))(0), api.Never, span(1, 1))
}

func TestP13_8Harm(t *testing.T) {
	two := blown(blow(0, 12, 16), blow(0, 12, 16))
	wantHarm(t, two(0), api.Perhaps, span(0, 2))
	wantHarm(t, two(0, meter(14, 1)), api.Perhaps, span(0, 1))
	wantHarm(t, two(0, meter(16, 1)), api.Never, span(1, 2))
	wantHarm(t, two(0, meter(16, 1), meter(14, 1)), api.Never, span(1, 1))
	wantHarm(t, two(0, meter(16, 2)), api.Never, span(2, 2))
	wantHarm(t, two(0, meter(14, 0)), api.Surely, span(0, 0))
	// the same number that is least and greatest, of other blows
	wantHarm(t, blown(blow(0, 13, 13), blow(3, 7, 7), blow(0, 16, 16), blow(3, 5, 5))(0), api.Never, span(2, 2))
	wantHarm(t, blown(blow(0, 14, 14), blow(3, 6, 6), blow(0, 16, 16), blow(3, 5, 5))(0), api.Never, span(1, 3))
	// each against the whole dome anew
	wantHarm(t, blown(slices.Repeat([]api.Blow{blow(0, 20, 20)}, 8)...)(0), api.Never, span(8, 8))
	wantHarm(t, blown(slices.Repeat([]api.Blow{blow(0, 13, 13)}, 8)...)(0), api.Surely, span(0, 0))
	wantHarm(t, blown(slices.Repeat([]api.Blow{blow(0, 12, 20)}, 8)...)(0, meter(16, 3), meter(14, 5)), api.Never, span(3, 5))
	wantHarm(t, with(runR(), 1), api.Perhaps, span(0, 3))
	r := runR()
	r.Canopy.Ribs[3] = span(41, 46) // the force 6 puts a load of 39 to 45 on it
	wantHarm(t, r, api.Perhaps, span(0, 2))
	r.Canopy.Ribs[3] = span(46, 46)
	wantHarm(t, r, api.Perhaps, span(0, 1))
}

func TestP13_9Show(t *testing.T) {
	two := blown(blow(0, 10, 14), blow(3, 12, 15))
	for i, r := range []api.Run{
		runR(), runP(), laden(), least(), most(), two(0), two(0, meter(14, 2)), two(0, meter(12, 1)), two(0, meter(15, 1)), two(1, meter(12, 0), meter(14, 2)),
		two(0, meter(13, 1), meter(14, 1)), two(2, meter(13, 1), meter(14, 1), meter(99, 2)), blown()(1, meter(0, 3)),
		blown(slices.Repeat([]api.Blow{blow(2, 10, 19)}, 8)...)(0, meter(11, 7), meter(13, 5), meter(15, 4), meter(17, 2), meter(19, 1)),
		blown(slices.Repeat([]api.Blow{blow(2, 90, 99)}, 8)...)(0, meter(99, 8)),
	} {
		wantShown(t, r)
		if t.Failed() {
			t.Fatal(i)
		}
	}
	// where there is one truth alone
	for _, x := range []struct {
		r    api.Run
		want []int
	}{
		{two(0, meter(14, 2), meter(15, 0)), []int{14, 14}}, {two(0, meter(14, 2), meter(15, 1)), []int{14, 15}}, {two(0, meter(11, 1), meter(13, 0)), []int{10, 12}},
		{two(1, meter(14, 2), meter(14, 2), meter(15, 0), meter(12, 1)), []int{14, 14}}, {blown()(0), nil},
	} {
		if forces, e := counts.Show(x.r); !slices.Equal(forces, x.want) || e != api.OK {
			t.Errorf("%+v: Show = %v, error %d; want %v", x.r, forces, e, x.want)
		}
	}
}
