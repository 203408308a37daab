package hire_test

import (
	"slices"
	"testing"

	"ferrule/api"
	"ferrule/hire"
)

// counterC is C of the chapter's examples, with something else in it.
func counterC(changes ...func(c *api.Counter)) api.Counter {
	c := api.Counter{
		Clerks: []api.Span{{}, span(-2, 1)},
		Slips:  []api.Slip{lent(1, 0, 100, 3, 7), back(2, 1, 160, 3), lent(3, 0, 161, 3, 8), back(4, 1, 393, 3), lent(5, 0, 120, 4, 7)},
		Closed: []api.Span{span(200, 299)},
		Tariff: api.Tariff{Free: 10, Unit: 30, Price: 50, Most: 400, Lost: 500, Value: 1500, Pledge: 1000},
	}
	for _, change := range changes {
		change(&c)
	}
	return c
}

// counter is one with these clerks and slips, always open, with the tariff of C.
func counter(clerks []api.Span, slips ...api.Slip) api.Counter {
	return counterC(func(c *api.Counter) { c.Clerks, c.Slips, c.Closed = clerks, slips, nil })
}

// right are watches that are right.
func right(many int) []api.Span { return make([]api.Span, many) }

func TestExamples(t *testing.T) {
	c := counterC()
	wantSpan(t, "Watch of 1", c, ofClerk, asked{clerk: 1}, span(-2, 0))
	for slip, want := range map[int][2]api.Span{1: {span(58, 60), span(100, 100)}, 3: {span(130, 132), span(200, 250)}} {
		wantSpan(t, "Lasts and Fee", c, ofSlip, asked{slip: slip}, want[0], want[1])
	}
	wantErrors(t, "Lasts of 5", ofSlip(c, asked{slip: 5}), api.ErrNone)
	for guest, want := range map[int]api.Span{7: span(100, 100), 8: span(200, 250), 9: span(0, 0)} {
		wantSpan(t, "Owes", c, ofGuest, asked{guest: guest}, want)
	}
	for minute, want := range map[int][]int{99: {-1}, 159: {-1, 7}, 161: {8}, 392: {-1, 8}} {
		wantWhere(t, c, 3, minute, want)
	}
	wantHeld(t, c, 159, span(1000, 2000))
	wantHeld(t, c, 170, span(2000, 2000))
	wantMissing(t, c, 719, nil, nil)
	wantMissing(t, c, 720, []int{4}, []int{4})
}

// wantSpan wants that the answers to a question begin with these spans.
func wantSpan(t *testing.T, what string, c api.Counter, of func(api.Counter, asked) []answer, a asked, want ...api.Span) {
	t.Helper()
	is := of(c, a)
	for i, s := range want {
		if is[i].value != s || is[i].e != api.OK {
			t.Errorf("%s: %s of %+v = %v, error %d; want %v", what, is[i].name, a, is[i].value, is[i].e, s)
		}
	}
}

func wantWhere(t *testing.T, c api.Counter, umbrella, minute int, want []int) {
	t.Helper()
	if l, e := hire.Where(c, umbrella, minute); !slices.Equal(l, want) || e != api.OK {
		t.Errorf("Where of %d after %d = %v, error %d; want %v", umbrella, minute, l, e, want)
	}
}

func wantHeld(t *testing.T, c api.Counter, minute int, want api.Span) {
	t.Helper()
	if s, e := hire.Held(c, minute); s != want || e != api.OK {
		t.Errorf("Held after %d = %v, error %d; want %v", minute, s, e, want)
	}
}

func wantMissing(t *testing.T, c api.Counter, minute int, sure, may []int) {
	t.Helper()
	if s, m, e := hire.Missing(c, minute); !slices.Equal(s, sure) || !slices.Equal(m, may) || e != api.OK {
		t.Errorf("Missing after %d = %v, %v, error %d; want %v, %v", minute, s, m, e, sure, may)
	}
}

func TestP9_2Merge(t *testing.T) {
	c := changed(func(c *api.Counter) {
		c.Slips, c.Voided = append(c.Slips[1:], c.Slips[3], c.Slips[0]), []int{9, 3, 9, 20}
	})
	m, e := hire.Merge(c, []api.Slip{lent(40, 1, 0, 0, 0), back(25, 1, 170, 3), lent(15, 1, 165, 3, 8), back(25, 1, 170, 3)}, []int{3, 0, 99, 0})
	want := laden()
	want.Slips = []api.Slip{lent(10, 0, 100, 3, 7), lent(15, 1, 165, 3, 8), back(20, 1, 160, 3), back(25, 1, 170, 3), lent(30, 2, 9999, 9, 99), lent(40, 1, 0, 0, 0)}
	want.Voided = []int{0, 3, 9, 20, 99}
	wantMerged(t, "all", m, e, want)
	// slips that are void stay, and Ids of no slips too
	m, e = hire.Merge(laden(), nil, []int{10, 20, 30, 40})
	want = laden()
	want.Voided = []int{0, 5, 10, 20, 30, 40, 99}
	wantMerged(t, "void", m, e, want)
	// what is there already is not merged again
	m, e = hire.Merge(m, laden().Slips, []int{40, 5})
	wantMerged(t, "again", m, e, want)
}

func wantMerged(t *testing.T, what string, c api.Counter, e api.Errno, want api.Counter) {
	t.Helper()
	if e != api.OK || !slices.Equal(c.Clerks, want.Clerks) || !slices.Equal(c.Slips, want.Slips) || !slices.Equal(c.Voided, want.Voided) || !slices.Equal(c.Closed, want.Closed) || c.Tariff != want.Tariff {
		t.Errorf("%s: Merge = %v, error %d; want %v", what, c, e, want)
	}
}

// lents are slips of umbrellas that go out, with Ids from one on.
func lents(id, many int) []api.Slip {
	var list []api.Slip
	for i := range many {
		list = append(list, lent(id+i, 1, i, i%10, i))
	}
	return list
}

// from are so many numbers from one on.
func from(n, many int) []int {
	var list []int
	for i := range many {
		list = append(list, n+i)
	}
	return list
}

func TestP9_2MergeLimits(t *testing.T) {
	for _, x := range []struct {
		slips, more   []api.Slip
		voided, added []int
		e             api.Errno
		many, void    int
	}{
		{lents(0, 6), lents(6, 6), from(0, 5), from(5, 7), api.OK, 12, 12}, {lents(0, 6), lents(6, 7), nil, nil, api.ErrCounter, 0, 0}, {lents(0, 12), nil, nil, nil, api.OK, 12, 0}, {nil, lents(0, 12), nil, nil, api.OK, 12, 0}, {lents(0, 12), lents(12, 1), nil, nil, api.ErrCounter, 0, 0}, {lents(0, 12), lents(0, 12), from(0, 12), from(0, 12), api.OK, 12, 12},
		{nil, nil, from(0, 6), from(6, 7), api.ErrCounter, 0, 0}, {nil, nil, from(0, 12), from(99, 1), api.ErrCounter, 0, 0}, {nil, nil, make([]int, 12), from(88, 11), api.OK, 0, 12}, {nil, nil, make([]int, 12), from(88, 12), api.ErrCounter, 0, 0}, {slices.Repeat(lents(0, 1), 12), lents(1, 11), nil, nil, api.OK, 12, 0}, {lents(1, 11), slices.Repeat(lents(0, 1), 12), nil, nil, api.OK, 12, 0},
		{slices.Repeat(lents(0, 1), 12), lents(1, 12), nil, nil, api.ErrCounter, 0, 0}, {lents(0, 12), lents(12, 12), from(0, 12), from(12, 12), api.ErrCounter, 0, 0},
		// slips that are void are slips too
		{lents(0, 6), lents(6, 7), from(0, 6), from(6, 6), api.ErrCounter, 0, 0},
	} {
		c := changed(func(c *api.Counter) { c.Slips, c.Voided = x.slips, x.voided })
		m, e := hire.Merge(c, x.more, x.added)
		if e != x.e || len(m.Slips) != x.many || len(m.Voided) != x.void {
			t.Errorf("%v: Merge = %v, error %d", x, m, e)
		}
		if e != api.OK {
			wantErrors(t, "too many", []answer{answerOf("Merge", m, e)}, x.e)
		}
	}
}

// The counter's own errors come first, then those of what is new, then those of both together.
func TestP9_2MergeErrors(t *testing.T) {
	same := func(*api.Counter) {}
	invalid := func(c *api.Counter) { c.Tariff.Pledge = -1 }
	clash := clashes()[0]
	full := func(c *api.Counter) { c.Slips = append(c.Slips, lents(50, 8)...) }
	twelve, clashing := lents(50, 12), []api.Slip{lent(60, 1, 1, 1, 1), lent(60, 1, 1, 1, 2)}
	for i, x := range []struct {
		change func(c *api.Counter)
		more   []api.Slip
		voided []int
		e      api.Errno
	}{
		{invalid, nil, nil, api.ErrCounter}, {clash, nil, nil, api.ErrSlip}, {clash, []api.Slip{{}}, nil, api.ErrSlip}, {clash, nil, []int{100}, api.ErrSlip}, {invalid, clashing, nil, api.ErrCounter}, {clash, lents(50, 13), nil, api.ErrSlip}, {clash, lents(50, 12), nil, api.ErrSlip},
		{same, []api.Slip{{}}, nil, api.ErrCounter}, {same, []api.Slip{lent(50, 3, 0, 0, 0)}, nil, api.ErrCounter}, {same, []api.Slip{lent(100, 1, 0, 0, 0)}, nil, api.ErrCounter}, {same, lents(50, 13), nil, api.ErrCounter}, {same, slices.Repeat(lents(50, 1), 13), nil, api.ErrCounter}, {same, nil, []int{-1}, api.ErrCounter}, {same, nil, []int{100}, api.ErrCounter},
		{same, nil, make([]int, 13), api.ErrCounter}, {same, clashing, []int{100}, api.ErrCounter}, {same, append(clashing, api.Slip{}), nil, api.ErrCounter}, {same, []api.Slip{back(10, 0, 100, 3), {}}, nil, api.ErrCounter},
		{same, clashing, nil, api.ErrSlip}, {same, []api.Slip{lent(10, 0, 101, 3, 7)}, nil, api.ErrSlip}, {same, []api.Slip{lent(10, 1, 100, 3, 7)}, nil, api.ErrSlip}, {same, []api.Slip{lent(10, 0, 100, 4, 7)}, nil, api.ErrSlip}, {same, []api.Slip{lent(10, 0, 100, 3, 8)}, nil, api.ErrSlip}, {same, []api.Slip{back(40, 1, 0, 0)}, nil, api.ErrSlip},
		// one that is void clashes, and clashes come before too many
		{same, []api.Slip{lent(10, 0, 101, 3, 7)}, []int{10}, api.ErrSlip}, {same, append(twelve[1:], back(40, 1, 0, 0)), nil, api.ErrSlip}, {full, append(lents(62, 1), back(40, 1, 0, 0)), nil, api.ErrSlip}, {full, []api.Slip{lent(50, 1, 9, 9, 9)}, nil, api.ErrSlip}, {full, lents(62, 1), nil, api.ErrCounter}, {full, laden().Slips, nil, api.OK},
		{func(c *api.Counter) { c.Voided = []int{10} }, []api.Slip{lent(10, 0, 101, 3, 7)}, nil, api.ErrSlip},
		// there need be no truth
		{untrue()[0], nil, nil, api.OK}, {same, []api.Slip{back(50, 1, 1, 1)}, nil, api.OK},
	} {
		m, e := hire.Merge(changed(x.change), x.more, x.voided)
		if x.e != api.OK {
			wantErrors(t, "Merge", []answer{answerOf("Merge", m, e)}, x.e)
		}
		if e != x.e {
			t.Errorf("%d: error %d; want %d", i, e, x.e)
		}
	}
}

func TestP9_3Watch(t *testing.T) {
	wide := []api.Span{{}, span(-30, 30), span(-5, 5)}
	pair := func(low, high int) api.Counter {
		return counter([]api.Span{{}, span(low, high)}, lent(1, 0, 100, 0, 1), back(2, 0, 102, 0), lent(3, 1, 101, 0, 1), back(4, 1, 102, 0))
	}
	for i, x := range []struct {
		c    api.Counter
		want []api.Span
	}{
		{counterC(), []api.Span{{}, span(-2, 0)}}, {counterC(func(c *api.Counter) { c.Voided = []int{3, 4} }), []api.Span{{}, span(-2, 1)}}, {counterC(func(c *api.Counter) { c.Slips[1].At = 162 }), []api.Span{{}, span(-2, -2)}},
		{counter(wide), wide},
		// a watch is known by slips before and behind it, of which none has the same minute
		{counter(wide, lent(1, 0, 100, 0, 1), back(2, 1, 110, 0), lent(3, 0, 130, 0, 1)), []api.Span{{}, span(-9, 19), span(-5, 5)}},
		{counter(wide, lent(1, 0, 100, 0, 1), back(2, 1, 71, 0)), []api.Span{{}, span(30, 30), span(-5, 5)}},
		{counter(wide, lent(1, 0, 100, 0, 1), back(2, 1, 130, 0)), []api.Span{{}, span(-29, 30), span(-5, 5)}},
		{counter(wide, lent(1, 0, 100, 0, 1), back(2, 1, 131, 0)), []api.Span{{}, span(-30, 30), span(-5, 5)}},
		// slips of other umbrellas do not matter to each other
		{counter(wide, lent(1, 0, 100, 0, 1), lent(2, 1, 90, 1, 1)), wide},
		// the watches of two clerks are both better known, together or from one to the other
		{counter(wide, lent(1, 2, 100, 0, 1), back(2, 1, 80, 0)), []api.Span{{}, span(16, 30), span(-5, 5)}},
		{counter(wide, lent(1, 1, 100, 0, 1), back(2, 2, 68, 0)), []api.Span{{}, span(-30, -28), span(3, 5)}},
		{counter(wide, lent(1, 0, 100, 0, 1), back(2, 2, 99, 0), lent(3, 2, 99, 1, 1), back(4, 1, 72, 1)), []api.Span{{}, span(30, 30), span(2, 2)}},
		// the hire of another clerk can be before one or behind it, but not in it
		{pair(-3, 2), []api.Span{{}, span(-3, 2)}}, {pair(-2, 2), []api.Span{{}, span(2, 2)}}, {pair(-3, 1), []api.Span{{}, span(-3, -3)}}, {pair(-2, 1), nil}, {pair(-30, 30), []api.Span{{}, span(-30, 30)}},
		{counter([]api.Span{{}, span(-3, 3)}, lent(1, 0, 100, 0, 1), back(2, 0, 103, 0), lent(3, 1, 101, 0, 1)), []api.Span{{}, span(3, 3)}},
		{counter([]api.Span{{}, span(-2, 2)}, lent(1, 0, 100, 0, 1), back(2, 0, 103, 0), lent(3, 1, 101, 0, 1)), nil},
		// a minute can be below 0, and above MaxAt
		{counter([]api.Span{{}, span(-9, 9)}, lent(1, 1, 4, 0, 1), back(2, 0, 0, 0)), []api.Span{{}, span(-9, -5)}},
		{counter([]api.Span{{}, span(-9, 9)}, lent(1, 0, 9999, 0, 1), back(2, 1, 9995, 0)), []api.Span{{}, span(5, 9)}},
	} {
		for clerk, want := range x.want {
			if s, e := hire.Watch(x.c, clerk); s != want || e != api.OK {
				t.Errorf("%d: Watch of %d = %v, error %d; want %v", i, clerk, s, e, want)
			}
		}
		if x.want == nil {
			wantErrors(t, "no truth", ofTruth(x.c, asked{slip: 1}), api.ErrNone)
		}
	}
}

// lasting is a counter with one hire by watches that are right, the slip 1, and what it lasts.
type lasting struct {
	from, to int
	closed   []api.Span
	want     int
}

func lastings() []lasting {
	two := []api.Span{span(10, 19), span(30, 39)}
	return []lasting{
		{0, 1, nil, 1}, {100, 160, nil, 60}, {0, 9999, nil, 9999}, {0, 9999, []api.Span{span(0, 9999)}, 0}, {0, 9999, []api.Span{span(0, 9998)}, 0}, {0, 9999, []api.Span{span(9999, 9999)}, 9999},
		{5, 10, two, 5}, {5, 11, two, 5}, {5, 15, two, 5}, {5, 20, two, 5}, {5, 21, two, 6}, {9, 10, two, 1}, {10, 11, two, 0}, {10, 20, two, 0}, {10, 21, two, 1}, {15, 16, two, 0}, {15, 25, two, 5}, {19, 20, two, 0}, {19, 21, two, 1}, {20, 21, two, 1}, {20, 30, two, 10}, {20, 31, two, 10}, {15, 35, two, 10}, {12, 18, two, 0}, {0, 50, two, 30}, {10, 40, two, 10}, {39, 41, two, 1}, {40, 50, two, 10},
		{5, 9, []api.Span{span(5, 5), span(6, 6), span(7, 7), span(8, 8)}, 0}, {5, 10, []api.Span{span(5, 5), span(6, 6), span(7, 7), span(8, 8)}, 1}, {4, 10, []api.Span{span(5, 5), span(9, 9)}, 4},
	}
}

// either is a counter of which either the slip 1 or the slip 3 comes first, and only the hire of this one is finished.
func either() api.Counter {
	return counter([]api.Span{{}, span(-9, 9), span(-9, 9)}, lent(1, 0, 50, 0, 5), back(2, 1, 50, 0), lent(3, 2, 50, 0, 6))
}

func TestP9_4Lasts(t *testing.T) {
	for i, x := range lastings() {
		c := counter(right(1), lent(1, 0, x.from, 0, 5), back(2, 0, x.to, 0))
		c.Closed = x.closed
		if s, e := hire.Lasts(c, 1); s != span(x.want, x.want) || e != api.OK {
			t.Errorf("%d: Lasts = %v, error %d; want %d", i, s, e, x.want)
		}
	}
	wide, both := []api.Span{{}, span(-2, 3)}, []api.Span{span(-1, 0), span(-2, 3)}
	for i, x := range []struct {
		c      api.Counter
		closed []api.Span
		slip   int
		want   api.Span
	}{
		// no hire lasts less than a minute, and one by the same watch as long in each truth, but for closed minutes
		{counter(wide, lent(1, 0, 50, 0, 5), back(2, 1, 60, 0)), nil, 1, span(8, 13)}, {counter(wide, lent(1, 1, 50, 0, 5), back(2, 0, 60, 0)), nil, 1, span(7, 12)}, {counter(wide, lent(1, 1, 50, 0, 5), back(2, 1, 60, 0)), nil, 1, span(10, 10)}, {counter(wide, lent(1, 0, 50, 0, 5), back(2, 1, 50, 0)), nil, 1, span(1, 3)},
		{counter(wide, lent(1, 1, 50, 0, 5), back(2, 1, 60, 0)), []api.Span{span(60, 99)}, 1, span(7, 10)}, {counter(wide, lent(1, 1, 50, 0, 5), back(2, 1, 60, 0)), []api.Span{span(0, 48), span(61, 99)}, 1, span(8, 10)}, {counter(wide, lent(1, 1, 50, 0, 5), back(2, 1, 60, 0)), []api.Span{span(50, 50), span(61, 61)}, 1, span(9, 10)},
		{counter(both, lent(1, 0, 50, 0, 5), back(2, 1, 60, 0)), nil, 1, span(8, 14)}, {counter(wide, lent(1, 0, 50, 0, 5), back(2, 1, 60, 0)), []api.Span{span(58, 60)}, 1, span(8, 10)}, {counter(wide, lent(1, 0, 50, 0, 5), back(2, 1, 60, 0)), []api.Span{span(50, 70)}, 1, span(0, 0)},
		// minutes below 0 and above MaxAt are not closed
		{counter(wide, lent(1, 1, 0, 0, 5), back(2, 0, 9, 0)), []api.Span{span(0, 9999)}, 1, span(0, 2)}, {counter(wide, lent(1, 0, 9990, 0, 5), back(2, 1, 9999, 0)), []api.Span{span(0, 9999)}, 1, span(0, 2)},
		// the next slip of its umbrella ends it, by whichever watch
		{counter(wide, lent(1, 0, 50, 0, 5), back(2, 0, 60, 0), lent(3, 0, 62, 0, 6), back(4, 0, 70, 0)), nil, 1, span(10, 10)}, {counter(wide, lent(1, 0, 50, 0, 5), back(2, 1, 60, 0), lent(3, 1, 61, 0, 6), back(4, 0, 80, 0)), nil, 3, span(16, 21)},
		// a hire by another watch cannot lie in it
		{counter([]api.Span{{}, span(-9, 9)}, lent(1, 0, 50, 0, 5), back(2, 0, 52, 0), lent(3, 1, 50, 0, 6), back(4, 1, 51, 0)), nil, 1, span(2, 2)},
		// in some truths it is finished, in some it is not
		{either(), nil, 1, span(1, 8)}, {either(), nil, 3, span(1, 8)}, {counter([]api.Span{{}, span(-20, 20)}, lent(1, 0, 50, 0, 5), lent(2, 1, 50, 0, 6), back(3, 1, 54, 0)), nil, 2, span(4, 4)},
		// slips of other Ids, also void ones, and of other umbrellas do not end it
		{counterC(func(c *api.Counter) { c.Voided = []int{2, 3} }), []api.Span{span(200, 299)}, 1, span(191, 194)}, {counter(right(1), lent(1, 0, 50, 0, 5), back(2, 0, 55, 1), lent(3, 0, 54, 1, 5), back(4, 0, 60, 0)), nil, 1, span(10, 10)}, {counter(right(1), lent(1, 0, 50, 0, 5), back(2, 0, 55, 1), lent(3, 0, 54, 1, 5), back(4, 0, 60, 0)), nil, 3, span(1, 1)},
		{counter(right(1), back(9, 0, 60, 0), lent(1, 0, 50, 0, 5), lent(0, 0, 70, 0, 0), back(2, 0, 99, 0)), nil, 0, span(29, 29)},
	} {
		x.c.Closed = x.closed
		if s, e := hire.Lasts(x.c, x.slip); s != x.want || e != api.OK {
			t.Errorf("%d: Lasts = %v, error %d; want %v", i, s, e, x.want)
		}
	}
	// a hire that is finished in no truth lasts no time
	for _, c := range []api.Counter{
		counter(right(1), lent(1, 0, 50, 0, 5)), counter(right(1), lent(2, 0, 40, 0, 5), back(3, 0, 45, 0), lent(1, 0, 50, 0, 5)), counter(right(1), lent(1, 0, 50, 0, 5), back(2, 0, 60, 1), lent(3, 0, 55, 1, 5)),
		counterC(func(c *api.Counter) { c.Voided = []int{2, 3, 4} }), counter(wide, lent(1, 0, 50, 0, 5), lent(2, 1, 9, 0, 5), back(3, 1, 10, 0)),
	} {
		wantErrors(t, "not finished", ofSlip(c, asked{slip: 1}), api.ErrNone)
	}
}

func TestP9_5Fee(t *testing.T) {
	plain := api.Tariff{Free: 10, Unit: 30, Price: 50, Most: 400, Lost: 500, Value: 1500}
	for i, x := range []struct {
		tariff     api.Tariff
		lasts, fee int
	}{
		{plain, 1, 0}, {plain, 10, 0}, {plain, 11, 50}, {plain, 39, 50}, {plain, 40, 50}, {plain, 41, 100}, {plain, 70, 100}, {plain, 71, 150}, {plain, 220, 350}, {plain, 221, 400}, {plain, 250, 400}, {plain, 251, 400}, {plain, 499, 400}, {plain, 500, 1500}, {plain, 501, 1500}, {plain, 9999, 1500},
		{api.Tariff{Unit: 1, Price: 3, Most: 100000, Lost: 9999}, 9998, 29994}, {api.Tariff{Unit: 1, Price: 100000, Most: 100000, Lost: 9999, Value: 7}, 9998, 100000}, {api.Tariff{Unit: 1, Price: 100000, Most: 100000, Lost: 9999, Value: 7}, 9999, 7}, {api.Tariff{Unit: 9999, Price: 8, Most: 100, Lost: 9999}, 9998, 8}, {api.Tariff{Unit: 9999, Price: 8, Most: 100, Lost: 9999}, 1, 8},
		{api.Tariff{Free: 9999, Unit: 1, Price: 8, Most: 100, Lost: 9999, Value: 7}, 9998, 0}, {api.Tariff{Free: 9999, Unit: 1, Price: 8, Most: 100, Lost: 9999, Value: 7}, 9999, 7}, {api.Tariff{Free: 50, Unit: 1, Price: 8, Most: 100, Lost: 20, Value: 7}, 20, 7}, {api.Tariff{Free: 50, Unit: 1, Price: 8, Most: 100, Lost: 20, Value: 7}, 19, 0}, {api.Tariff{Unit: 1, Lost: 1, Value: 100000}, 1, 100000}, {api.Tariff{Unit: 1, Price: 9, Most: 9, Lost: 1}, 5, 0},
		{api.Tariff{Unit: 5, Price: 9, Most: 0, Lost: 100, Value: 3}, 50, 0}, {api.Tariff{Unit: 5, Price: 0, Most: 9, Lost: 100, Value: 3}, 50, 0}, {api.Tariff{Unit: 5, Price: 9, Most: 20, Lost: 100, Value: 3}, 10, 18}, {api.Tariff{Unit: 5, Price: 9, Most: 20, Lost: 100, Value: 3}, 11, 20}, {api.Tariff{Unit: 5, Price: 9, Most: 20, Lost: 100, Value: 3}, 100, 3}, {api.Tariff{Free: 1, Unit: 2, Price: 9, Most: 20, Lost: 100}, 2, 9}, {api.Tariff{Free: 1, Unit: 2, Price: 9, Most: 20, Lost: 100}, 3, 9}, {api.Tariff{Free: 1, Unit: 2, Price: 9, Most: 20, Lost: 100}, 4, 18},
	} {
		c := counter(right(1), lent(1, 0, 0, 0, 5), back(2, 0, x.lasts, 0))
		c.Tariff = x.tariff
		if s, e := hire.Fee(c, 1); s != span(x.fee, x.fee) || e != api.OK {
			t.Errorf("%d: Fee of %d = %v, error %d; want %d", i, x.lasts, s, e, x.fee)
		}
	}
	for i, x := range []struct {
		c    api.Counter
		slip int
		want api.Span
	}{
		{counterC(), 1, span(100, 100)}, {counterC(), 3, span(200, 250)}, {counterC(func(c *api.Counter) { c.Closed = nil }), 3, span(400, 400)}, {counterC(func(c *api.Counter) { c.Tariff.Most = 220 }), 3, span(200, 220)},
		// the fee of the longest hire need not be the greatest one, nor that of the shortest the least one
		{counterC(func(c *api.Counter) { c.Tariff.Lost, c.Tariff.Value = 131, 100 }), 3, span(100, 200)}, {counterC(func(c *api.Counter) { c.Tariff.Lost, c.Tariff.Value = 132, 210 }), 3, span(200, 250)}, {counterC(func(c *api.Counter) { c.Tariff.Lost, c.Tariff.Value = 132, 0 }), 3, span(0, 250)},
		// closed minutes cost nothing
		{counterC(func(c *api.Counter) { c.Closed = []api.Span{span(0, 9999)} }), 1, span(0, 0)}, {counterC(func(c *api.Counter) { c.Tariff.Free = 58 }), 1, span(0, 50)}, {counterC(func(c *api.Counter) { c.Closed = []api.Span{span(0, 149)} }), 1, span(0, 0)}, {counterC(func(c *api.Counter) { c.Closed = []api.Span{span(0, 147)} }), 1, span(0, 50)},
	} {
		if s, e := hire.Fee(x.c, x.slip); s != x.want || e != api.OK {
			t.Errorf("%d: Fee = %v, error %d; want %v", i, s, e, x.want)
		}
	}
	wantErrors(t, "no truth", ofSlip(counterC(func(c *api.Counter) { c.Slips[4] = back(6, 1, 9, 9) }), asked{slip: 1}), api.ErrNone)
}

func TestP9_6Owes(t *testing.T) {
	cents := func(c *api.Counter) {
		c.Tariff = api.Tariff{Unit: 1, Price: 1, Most: 1000, Lost: 9999}
	}
	wide := []api.Span{{}, span(-5, 5)}
	many := counter(right(1), lent(1, 0, 0, 0, 5), back(2, 0, 10, 0), lent(3, 0, 20, 0, 5), back(4, 0, 40, 0), lent(5, 0, 0, 1, 5), back(6, 0, 3, 1), lent(7, 0, 5, 1, 6), back(8, 0, 9, 1), lent(9, 0, 50, 0, 5), lent(10, 0, 50, 2, 6))
	mixed := counter(wide, lent(1, 0, 50, 0, 5), back(2, 1, 60, 0), lent(3, 1, 80, 1, 5), back(4, 0, 95, 1), lent(5, 0, 50, 2, 0), back(6, 1, 50, 2))
	void := many
	void.Voided = []int{1, 2, 5, 6, 77}
	swapped := counter([]api.Span{{}, span(-20, 20)}, lent(1, 0, 50, 0, 5), back(3, 0, 60, 0), lent(2, 1, 50, 0, 6), back(4, 1, 55, 0))
	for i, x := range []struct {
		c     api.Counter
		guest int
		want  api.Span
	}{
		{many, 5, span(33, 33)}, {many, 6, span(4, 4)}, {many, 0, span(0, 0)}, {many, 99, span(0, 0)}, {void, 5, span(20, 20)}, {void, 6, span(4, 4)},
		// what one hire lasts longer, another one lasts less
		{mixed, 5, span(25, 25)}, {mixed, 0, span(1, 5)}, {mixed, 6, span(0, 0)},
		// a hire that is not finished costs nothing yet
		{either(), 5, span(0, 8)}, {either(), 6, span(0, 8)}, {counter([]api.Span{span(-9, -9)}, lent(1, 0, 1, 0, 5)), 5, span(0, 0)}, {counter(right(1), lent(1, 0, 50, 0, 5)), 5, span(0, 0)}, {counter(wide, lent(1, 0, 50, 0, 5), back(2, 1, 60, 0), lent(3, 0, 30, 1, 5), back(4, 1, 40, 1)), 5, span(10, 30)},
		// the guest of a slip of api.Returned is no guest
		{swapped, 0, span(0, 0)}, {swapped, 5, span(10, 10)}, {swapped, 6, span(5, 5)},
	} {
		cents(&x.c)
		if s, e := hire.Owes(x.c, x.guest); s != x.want || e != api.OK {
			t.Errorf("%d: Owes of %d = %v, error %d; want %v", i, x.guest, s, e, x.want)
		}
	}
	dear := counter(right(1))
	for i := range 6 {
		dear.Slips = append(dear.Slips, lent(2*i, 0, 0, i, 99), back(2*i+1, 0, 9999, i))
	}
	dear.Tariff = api.Tariff{Unit: 1, Lost: 9999, Value: 100000}
	if s, e := hire.Owes(dear, 99); s != span(600000, 600000) || e != api.OK {
		t.Errorf("Owes = %v, error %d", s, e)
	}
}

func TestP9_7Where(t *testing.T) {
	c := counterC()
	for umbrella, all := range map[int]map[int][]int{
		3: {0: {-1}, 99: {-1}, 100: {7}, 157: {7}, 158: {-1, 7}, 159: {-1, 7}, 160: {-1}, 161: {8}, 390: {8}, 391: {-1, 8}, 392: {-1, 8}, 393: {-1}, 9999: {-1}},
		4: {119: {-1}, 120: {7}, 9999: {7}}, 0: {0: {-1}, 500: {-1}}, 9: {9999: {-1}},
	} {
		for minute, want := range all {
			wantWhere(t, c, umbrella, minute, want)
		}
	}
	// the guest 0 is a guest, and what comes back below 0 is back at 0
	wide := []api.Span{{}, span(-9, 9)}
	early := counter(wide, lent(1, 1, 1, 0, 0), back(2, 1, 3, 0))
	for minute, want := range [][]int{{-1, 0}, {-1, 0}, {-1, 0}, {-1, 0}, {-1, 0}, {-1, 0}, {-1, 0}, {-1, 0}, {-1, 0}, {-1, 0}, {-1, 0}, {-1, 0}, {-1}} {
		wantWhere(t, early, 0, minute, want)
	}
	wantWhere(t, counter([]api.Span{span(-30, -9)}, lent(1, 0, 1, 0, 0), back(2, 0, 8, 0)), 0, 0, []int{-1})
	wantWhere(t, counter([]api.Span{span(-30, -9)}, lent(1, 0, 8, 0, 0), back(2, 0, 30, 0)), 0, 0, []int{-1, 0})
	wantWhere(t, counter([]api.Span{span(-30, -9)}, lent(1, 0, 9, 0, 0)), 0, 0, []int{0})
	// what goes out above MaxAt is in the shop
	wantWhere(t, counter([]api.Span{span(0, 1)}, lent(1, 0, 9999, 0, 4)), 0, 9999, []int{-1, 4})
	wantWhere(t, counter([]api.Span{span(1, 1)}, lent(1, 0, 9999, 0, 4)), 0, 9999, []int{-1})
	// one of many guests, each once
	many := counter(wide, lent(1, 1, 50, 0, 8), back(2, 1, 52, 0), lent(3, 1, 54, 0, 2), back(4, 1, 56, 0), lent(5, 1, 57, 0, 99), back(6, 1, 58, 0), lent(7, 1, 59, 0, 2))
	wantWhere(t, many, 0, 55, []int{-1, 2, 8, 99})
	wantWhere(t, many, 0, 47, []int{-1, 2, 8})
	wantWhere(t, many, 0, 68, []int{2})
	wantWhere(t, counter(right(1), lent(1, 0, 50, 0, 8), back(2, 0, 52, 0), lent(3, 0, 53, 0, 2)), 0, 53, []int{2})
	wantWhere(t, counter(right(1), lent(1, 0, 50, 0, 8), back(2, 0, 51, 0), lent(3, 0, 52, 0, 2)), 0, 51, []int{-1})
	wantWhere(t, either(), 0, 50, []int{5})
	wantWhere(t, either(), 0, 48, []int{-1, 6})
	wantWhere(t, either(), 0, 49, []int{-1})
	wantWhere(t, either(), 0, 51, []int{-1, 5})
	wantWhere(t, either(), 0, 52, []int{-1, 5, 6})
	void := many
	void.Voided = []int{1, 2, 5, 6}
	wantWhere(t, void, 0, 55, []int{-1, 2})
}

func TestP9_8Held(t *testing.T) {
	c := counterC()
	for minute, want := range map[int]api.Span{
		0: span(0, 0), 99: span(0, 0), 100: span(1000, 1000), 119: span(1000, 1000), 120: span(2000, 2000), 158: span(1000, 2000), 159: span(1000, 2000), 160: span(1000, 1000), 161: span(2000, 2000), 170: span(2000, 2000), 391: span(1000, 2000), 400: span(1000, 1000), 9999: span(1000, 1000),
	} {
		wantHeld(t, c, minute, want)
		wantHeld(t, counterC(func(c *api.Counter) { c.Tariff.Pledge = 0 }), minute, span(0, 0))
	}
	// one comes back by the same watch by which another one goes out
	wide := []api.Span{{}, span(-5, 5)}
	for slips, want := range map[int]api.Span{2: span(0, 7), 3: span(7, 7), 4: span(7, 14)} {
		c := counter(wide, lent(1, 0, 0, 0, 4), back(2, 1, 50, 0), lent(3, 1, 50, 1, 4), lent(4, 1, 49, 2, 4))
		c.Slips, c.Tariff.Pledge = c.Slips[:slips], 7
		wantHeld(t, c, 50, want)
	}
	all := counter(right(1))
	for umbrella := range 10 {
		all.Slips = append(all.Slips, lent(umbrella, 0, umbrella, umbrella, 5))
	}
	all.Tariff.Pledge = 100000
	for minute := range 10 {
		wantHeld(t, all, minute, span(100000*(minute+1), 100000*(minute+1)))
	}
	all.Voided = []int{3, 8}
	wantHeld(t, all, 9999, span(800000, 800000))
}

func TestP9_9Missing(t *testing.T) {
	for i, x := range []struct {
		lost, minute int
		sure, may    []int
	}{
		{500, 719, nil, nil}, {500, 720, []int{4}, []int{4}}, {500, 9999, []int{4}, []int{4}}, {59, 158, nil, nil}, {59, 159, nil, []int{3}}, {59, 160, nil, nil}, {59, 178, nil, nil}, {59, 179, []int{4}, []int{4}}, {59, 219, []int{4}, []int{4}}, {59, 319, []int{4}, []int{4}}, {59, 320, []int{3, 4}, []int{3, 4}}, {59, 392, []int{4}, []int{3, 4}}, {59, 393, []int{4}, []int{4}},
		// before the minute itself
		{1, 99, nil, nil}, {1, 100, nil, nil}, {1, 101, []int{3}, []int{3}}, {1, 120, []int{3}, []int{3}}, {1, 121, []int{3, 4}, []int{3, 4}},
		// closed minutes do not count, however many they are
		{80, 199, nil, nil}, {80, 200, []int{4}, []int{4}}, {81, 200, nil, nil}, {81, 300, nil, nil}, {81, 301, []int{4}, []int{4}},
	} {
		c := counterC(func(c *api.Counter) { c.Tariff.Lost = x.lost })
		if s, m, e := hire.Missing(c, x.minute); !slices.Equal(s, x.sure) || !slices.Equal(m, x.may) || e != api.OK {
			t.Errorf("%d: Missing = %v, %v, error %d; want %v, %v", i, s, m, e, x.sure, x.may)
		}
	}
	lost := func(many int, c api.Counter) api.Counter {
		c.Tariff.Lost = many
		return c
	}
	wide := []api.Span{{}, span(-5, 5)}
	slips := []api.Slip{lent(1, 1, 50, 9, 4), lent(2, 1, 48, 0, 4), lent(3, 0, 50, 5, 4), lent(4, 1, 60, 2, 4)}
	for minute, want := range map[int][2][]int{
		52: {nil, nil}, 53: {nil, {0}}, 55: {nil, {0, 9}}, 59: {nil, {0, 9}}, 60: {{5}, {0, 5, 9}}, 63: {{0, 5}, {0, 5, 9}}, 65: {{0, 5, 9}, {0, 2, 5, 9}}, 75: {{0, 2, 5, 9}, {0, 2, 5, 9}},
	} {
		wantMissing(t, lost(10, counter(wide, slips...)), minute, want[0], want[1])
	}
	// only what is still out, by the hire in which it is
	twice := lost(10, counter(right(1), lent(1, 0, 50, 1, 4), back(2, 0, 70, 1), lent(3, 0, 71, 1, 5)))
	for minute, want := range map[int][]int{59: nil, 60: {1}, 69: {1}, 70: nil, 71: nil, 80: nil, 81: {1}} {
		wantMissing(t, twice, minute, want, want)
	}
	// minutes below 0 count, and none of them is closed
	early := lost(3, counter([]api.Span{span(-3, -2)}, lent(1, 0, 0, 1, 4)))
	wantMissing(t, early, 0, nil, []int{1})
	early.Closed = []api.Span{span(0, 9999)}
	wantMissing(t, early, 0, nil, []int{1})
	wantMissing(t, early, 9999, nil, []int{1})
}
