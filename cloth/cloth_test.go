package cloth_test

import (
	"slices"
	"testing"

	"ferrule/api"
	"ferrule/cloth"
)

func span(low, high int) api.Span { return api.Span{Low: low, High: high} }

func strip(long, low, high int) api.Strip { return api.Strip{Long: long, Pulled: span(low, high)} }

// rows are rounds of any width.
func rows(many int) []api.Span { return slices.Repeat([]api.Span{span(0, 40000)}, many) }

// domeE is the dome E of the chapter's examples.
func domeE() api.Dome {
	return api.Dome{
		Bolts: []api.Bolt{
			{Stretch: span(0, 20), Strips: []api.Strip{strip(1000, 1005, 1010)}},
			{Stretch: span(0, 10)},
		},
		Gores:  []int{0, 0, 1, 1},
		Loss:   5,
		Rounds: []api.Span{span(400, 404), span(600, 650), span(803, 806)},
		Widths: []int{110, 165, 210},
		Slope:  50,
	}
}

// dome is E with something else in it.
func dome(change func(d *api.Dome)) api.Dome {
	d := domeE()
	change(&d)
	return d
}

// domeF is the dome F of the chapter's examples, with another Slope.
func domeF(slope int) api.Dome {
	return dome(func(d *api.Dome) { d.Rounds[2], d.Slope = span(800, 808), slope })
}

// lost is a dome without a truth: two strips of its first bolt say different things.
func lost() api.Dome {
	return withStrips(0, strip(1000, 1050, 1060))
}

// withStrips is E with more strips of the bolt 0, of which some can be false.
func withStrips(wrong int, strips ...api.Strip) api.Dome {
	return dome(func(d *api.Dome) {
		d.Bolts[0].Wrong, d.Bolts[0].Strips = wrong, append(d.Bolts[0].Strips, strips...)
	})
}

// fourfold is a valid dome with as many bolts as there can be.
func fourfold() api.Dome {
	return dome(func(d *api.Dome) {
		d.Bolts[0].Strips = append(d.Bolts[0].Strips, strip(600, 603, 609))
		d.Bolts = append(d.Bolts,
			api.Bolt{Stretch: span(10, 60), Strips: []api.Strip{strip(100, 101, 103), strip(500, 0, 4000)}, Wrong: 1},
			api.Bolt{Stretch: span(30, 31), Strips: []api.Strip{strip(2000, 2060, 2061)}},
		)
		d.Gores = []int{3, 2, 1, 0, 0, 1, 3}
	})
}

// plain is a dome of one bolt with one row.
func plain(gores int, stretch api.Span, loss, width int, wanted api.Span) api.Dome {
	return api.Dome{
		Bolts:  []api.Bolt{{Stretch: stretch}},
		Gores:  make([]int, gores),
		Loss:   loss,
		Rounds: []api.Span{wanted},
		Widths: []int{width},
	}
}

// from lists the numbers of a span.
func from(low, high int) []int {
	var all []int
	for n := low; n <= high; n++ {
		all = append(all, n)
	}
	return all
}

func TestP2_2Stretches(t *testing.T) {
	for i, x := range []struct {
		d    api.Dome
		bolt int
		want []int
	}{
		{domeE(), 0, from(5, 10)}, {domeE(), 1, from(0, 10)},
		{fourfold(), 0, from(5, 10)}, {fourfold(), 2, from(10, 60)}, {fourfold(), 3, []int{30}},
		// what is pulled is rounded down: 200 becomes 201 from 5 to 9
		{withStrips(0, strip(200, 201, 201)), 0, from(5, 9)},
		{withStrips(0, strip(199, 201, 201)), 0, nil},
		{withStrips(1, strip(199, 201, 300)), 0, append(from(5, 10), from(11, 20)...)},
		// the ends of Pulled are in it
		{withStrips(0, strip(1000, 1010, 1010)), 0, []int{10}}, {withStrips(0, strip(1000, 1000, 1005)), 0, []int{5}},
		{withStrips(0, strip(1000, 1011, 4000)), 0, nil},
		// one can be false: there are gaps
		{withStrips(1, strip(1000, 1018, 1040)), 0, append(from(5, 10), 18, 19, 20)},
		{withStrips(1, strip(1000, 1008, 1012), strip(1000, 1011, 1013)), 0, from(8, 12)},
		{withStrips(1, strip(1000, 1012, 1012), strip(1000, 1014, 1014)), 0, nil},
		// two can be false, and two that are equal are two
		{withStrips(2, strip(1000, 2000, 2000), strip(1, 1, 1)), 0, from(0, 20)},
		{withStrips(2, strip(1000, 2000, 2000), strip(1000, 2000, 2000)), 0, from(5, 10)},
		{withStrips(2, strip(1000, 2000, 2000), strip(1000, 2000, 2000), strip(1000, 2000, 2000)), 0, nil},
		{withStrips(1, strip(1000, 1005, 1010), strip(1000, 1019, 1019)), 0, from(5, 10)},
		// a strip that is always true, and one that never is
		{withStrips(0, strip(2000, 0, 4000)), 0, from(5, 10)}, {withStrips(0, strip(1000, 0, 999)), 0, nil},
		// only numbers of Stretch
		{plain(3, span(60, 60), 0, 0, span(0, 0)), 0, []int{60}}, {plain(3, span(0, 60), 0, 0, span(0, 0)), 0, from(0, 60)},
		{plain(3, span(0, 0), 0, 0, span(0, 0)), 0, []int{0}},
	} {
		numbers, e := cloth.Stretches(x.d, x.bolt)
		want := api.OK
		if x.want == nil {
			want = api.ErrNone
		}
		if !slices.Equal(numbers, x.want) || e != want {
			t.Errorf("%d: Stretches = %v, error %d; want %v", i, numbers, e, x.want)
		}
	}
}

func TestP2_3Fewest(t *testing.T) {
	for i, x := range []struct {
		d          api.Dome
		bolt, want int
	}{
		{domeE(), 0, 0}, {domeE(), 1, 0}, {lost(), 0, 1}, {lost(), 1, 0},
		// how many can be false does not matter
		{withStrips(2, strip(1000, 1050, 1060)), 0, 1},
		{withStrips(0, strip(199, 201, 300)), 0, 1}, {withStrips(0, strip(200, 201, 201)), 0, 0},
		{withStrips(1, strip(1000, 1008, 1012), strip(1000, 1011, 1013)), 0, 1},
		{withStrips(0, strip(1000, 1012, 1012), strip(1000, 1014, 1014)), 0, 2},
		{withStrips(0, strip(1000, 1012, 1012), strip(1000, 1012, 1012)), 0, 1},
		{withStrips(0, slices.Repeat([]api.Strip{strip(1000, 0, 0)}, 7)...), 0, 7},
		// a number that is not of Stretch does not count, though all strips are true of it
		{dome(func(d *api.Dome) { d.Bolts[0].Stretch.High = 4 }), 0, 1},
		{dome(func(d *api.Dome) { d.Bolts[0].Stretch.Low = 11 }), 0, 1},
		{dome(func(d *api.Dome) { d.Bolts[0].Strips = slices.Repeat([]api.Strip{strip(1, 2, 2)}, 8) }), 0, 8},
		// all numbers count, also the first one and the last one
		{dome(func(d *api.Dome) { d.Bolts[0].Strips = []api.Strip{strip(1000, 1000, 1000), strip(1, 2, 2)} }), 0, 1},
		{dome(func(d *api.Dome) { d.Bolts[0].Strips = []api.Strip{strip(1000, 1020, 1020), strip(1, 2, 2)} }), 0, 1},
	} {
		if n, e := cloth.Fewest(x.d, x.bolt); n != x.want || e != api.OK {
			t.Errorf("%d: Fewest = %d, error %d; want %d", i, n, e, x.want)
		}
	}
}

func TestP2_4Round(t *testing.T) {
	for i, x := range []struct {
		d    api.Dome
		row  int
		want api.Span
	}{
		{domeE(), 0, span(400, 404)}, {domeE(), 1, span(620, 624)}, {domeE(), 2, span(802, 808)},
		// each gore is rounded down by itself
		{plain(3, span(5, 5), 0, 199, span(0, 0)), 0, span(597, 597)}, {plain(3, span(5, 6), 0, 399, span(0, 0)), 0, span(1200, 1203)},
		// both sides of a gore are lost, before it is pulled
		{plain(3, span(60, 60), 20, 1040, span(0, 0)), 0, span(3180, 3180)}, {plain(3, span(60, 60), 20, 40, span(0, 0)), 0, span(0, 0)},
		{plain(3, span(0, 60), 1, 2, span(0, 0)), 0, span(0, 0)}, {plain(3, span(0, 60), 1, 102, span(0, 0)), 0, span(300, 318)},
		{plain(16, span(0, 60), 0, 2000, span(0, 0)), 0, span(32000, 33920)},
		// each gore is of its own bolt
		{dome(func(d *api.Dome) { d.Gores = []int{1, 0, 0, 0} }), 2, span(803, 808)},
		{dome(func(d *api.Dome) { d.Gores = []int{1, 1, 1, 1} }), 2, span(800, 808)},
		{dome(func(d *api.Dome) { d.Gores = []int{0, 0, 0} }), 2, span(603, 606)},
		// strips that are false let cloth stretch more
		{withStrips(1, strip(1000, 1018, 1040)), 2, span(802, 812)},
		{withStrips(1, strip(1000, 1000, 1001)), 2, span(800, 808)},
	} {
		if s, e := cloth.Round(x.d, x.row); s != x.want || e != api.OK {
			t.Errorf("%d: Round = %v, error %d; want %v", i, s, e, x.want)
		}
	}
}

func TestP2_5Tight(t *testing.T) {
	wanted := func(low, high int) api.Dome { return dome(func(d *api.Dome) { d.Rounds[2] = span(low, high) }) }
	// two bolts with three rounds each, 5 and 1 gores: the rounds are 1200 to 1212, but for 3 and 4, 8 and 9
	uneven := func(low, high int) api.Dome {
		return dome(func(d *api.Dome) {
			d.Bolts = []api.Bolt{{Stretch: span(0, 10)}, {Stretch: span(0, 10)}}
			d.Gores, d.Rounds[2] = []int{0, 0, 1, 0, 0, 0}, span(low, high)
		})
	}
	// the numbers 5 to 10 and 18 to 20: the rounds of 3 gores are 603, 606, 609 and 612
	gap := func(low, high int) api.Dome {
		d := withStrips(1, strip(1000, 1018, 1040))
		d.Gores, d.Rounds[2] = []int{0, 0, 0}, span(low, high)
		return d
	}
	for i, x := range []struct {
		d    api.Dome
		row  int
		want int
	}{
		{domeE(), 0, api.Surely}, {domeE(), 1, api.Surely}, {domeE(), 2, api.Perhaps}, {domeF(0), 2, api.Surely},
		{wanted(802, 808), 2, api.Surely}, {wanted(803, 808), 2, api.Perhaps}, {wanted(802, 807), 2, api.Perhaps},
		{wanted(0, 40000), 2, api.Surely},
		{wanted(0, 801), 2, api.Never}, {wanted(0, 802), 2, api.Perhaps},
		{wanted(809, 900), 2, api.Never}, {wanted(808, 900), 2, api.Perhaps},
		// gores of one bolt stretch alike: no round is odd
		{wanted(803, 803), 2, api.Never}, {wanted(804, 804), 2, api.Perhaps}, {wanted(805, 805), 2, api.Never},
		{wanted(803, 804), 2, api.Perhaps},
		{uneven(1203, 1204), 2, api.Never}, {uneven(1208, 1209), 2, api.Never}, {uneven(1202, 1202), 2, api.Perhaps},
		{uneven(1204, 1205), 2, api.Perhaps}, {uneven(1207, 1208), 2, api.Perhaps}, {uneven(1200, 1212), 2, api.Surely},
		{gap(607, 608), 2, api.Never}, {gap(604, 606), 2, api.Perhaps}, {gap(610, 611), 2, api.Never}, {gap(612, 612), 2, api.Perhaps},
		{gap(603, 612), 2, api.Surely},
		{dome(func(d *api.Dome) { d.Widths[0] = 10 }), 0, api.Never},
		{plain(3, span(0, 60), 5, 10, span(0, 0)), 0, api.Surely}, {plain(3, span(0, 60), 5, 10, span(1, 9)), 0, api.Never},
	} {
		if n, e := cloth.Tight(x.d, x.row); n != x.want || e != api.OK {
			t.Errorf("%d: Tight = %d, error %d; want %d", i, n, e, x.want)
		}
	}
}

// All bolts at their worst: each number of each of them gives another round.
func TestP2_5TightOfMany(t *testing.T) {
	d := plain(16, span(0, 60), 0, 2000, span(33919, 33919))
	d.Bolts = slices.Repeat(d.Bolts, 4)
	d.Gores = []int{0, 1, 1, 2, 2, 2, 2, 3, 3, 3, 3, 3, 3, 3, 3, 3}
	if n, e := cloth.Tight(d, 0); n != api.Never || e != api.OK {
		t.Errorf("Tight of an odd round = %d, error %d", n, e)
	}
	d.Rounds[0] = span(33918, 33918)
	if n, e := cloth.Tight(d, 0); n != api.Perhaps || e != api.OK {
		t.Errorf("Tight of an even round = %d, error %d", n, e)
	}
}

func TestP2_6Loose(t *testing.T) {
	for i, x := range []struct {
		d    api.Dome
		want []int
	}{
		{domeE(), []int{2}}, {domeF(50), nil},
		// the Slope does not matter
		{domeF(0), nil},
		{dome(func(d *api.Dome) { d.Rounds[0], d.Rounds[1] = span(1, 2), span(621, 650) }), []int{0, 1, 2}},
		{dome(func(d *api.Dome) { d.Rounds[0] = span(401, 404) }), []int{0, 2}},
		{dome(func(d *api.Dome) { d.Rounds[1], d.Rounds[2] = span(600, 623), span(802, 808) }), []int{1}},
		{dome(func(d *api.Dome) { d.Rounds, d.Widths = rows(12), slices.Repeat([]int{2000}, 12) }), nil},
	} {
		if l, e := cloth.Loose(x.d); !slices.Equal(l, x.want) || e != api.OK {
			t.Errorf("%d: Loose = %v, error %d; want %v", i, l, e, x.want)
		}
	}
}

func TestP2_7Cut(t *testing.T) {
	first := func(loss int, wanted api.Span) api.Dome {
		return dome(func(d *api.Dome) { d.Loss, d.Rounds[0], d.Widths[0] = loss, wanted, 500 })
	}
	for i, x := range []struct {
		d    api.Dome
		row  int
		want api.Span
	}{
		{domeE(), 0, span(110, 110)}, {domeE(), 1, span(160, 171)}, {domeF(50), 2, span(210, 210)},
		// neither the width that there is nor the Slope matter
		{dome(func(d *api.Dome) { d.Widths[1], d.Slope = 2000, 0 }), 1, span(160, 171)},
		// from 2 * Loss
		{first(5, span(0, 40000)), 0, span(10, 2000)}, {first(20, span(0, 40000)), 0, span(40, 2000)}, {first(0, span(0, 40000)), 0, span(0, 2000)},
		{first(5, span(0, 3)), 0, span(10, 10)}, {first(5, span(0, 4)), 0, span(10, 11)}, {first(0, span(0, 4)), 0, span(0, 1)},
		{first(5, span(1, 4)), 0, span(11, 11)}, {first(0, span(0, 0)), 0, span(0, 0)},
		// to MaxWidth
		{plain(3, span(0, 0), 0, 0, span(6000, 40000)), 0, span(2000, 2000)}, {plain(3, span(0, 0), 20, 40, span(5877, 5882)), 0, span(1999, 2000)},
		{plain(3, span(60, 60), 0, 0, span(6357, 6360)), 0, span(2000, 2000)}, {plain(16, span(60, 60), 0, 0, span(33900, 40000)), 0, span(2000, 2000)},
		// the gaps between rounds that are rounded down
		{plain(3, span(60, 60), 0, 0, span(48, 51)), 0, span(16, 16)}, {plain(3, span(60, 60), 0, 0, span(48, 54)), 0, span(16, 17)},
	} {
		if s, e := cloth.Cut(x.d, x.row); s != x.want || e != api.OK {
			t.Errorf("%d: Cut = %v, error %d; want %v", i, s, e, x.want)
		}
	}
	for i, x := range []struct {
		d   api.Dome
		row int
	}{
		{domeE(), 2}, {plain(3, span(0, 0), 0, 0, span(6001, 40000)), 0}, {plain(3, span(0, 0), 0, 0, span(4, 5)), 0},
		// the round 51 is rounded over
		{plain(3, span(60, 60), 0, 0, span(52, 53)), 0}, {plain(3, span(0, 60), 0, 0, span(600, 617)), 0},
	} {
		if s, e := cloth.Cut(x.d, x.row); s != (api.Span{}) || e != api.ErrNone {
			t.Errorf("%d: Cut = %v, error %d; want none", i, s, e)
		}
	}
}

// curved is a dome of three gores that do not stretch: the cuts of its rows are the spans.
func curved(slope int, cuts ...api.Span) api.Dome {
	d := plain(3, span(0, 0), 0, 0, span(0, 0))
	d.Slope, d.Rounds, d.Widths = slope, nil, make([]int, len(cuts))
	for _, s := range cuts {
		d.Rounds = append(d.Rounds, span(3*s.Low, 3*s.High))
	}
	return d
}

func TestP2_8LeastAndP2_9Curve(t *testing.T) {
	known := func(n int) api.Span { return span(n, n) }
	for i, x := range []struct {
		d    api.Dome
		want []int
	}{
		{domeF(50), []int{110, 160, 210}}, {domeF(500), []int{110, 160, 210}}, {domeF(49), nil}, {domeE(), nil},
		// all rows must be tight, also those that no Slope touches
		{curved(500, known(100), span(100, 200), known(2000)), nil},
		// the widths that there are do not matter
		{dome(func(d *api.Dome) { d.Rounds[2], d.Widths = span(800, 808), []int{10, 2000, 10} }), []int{110, 160, 210}},
		{dome(func(d *api.Dome) { d.Rounds, d.Widths = d.Rounds[:2], d.Widths[:2] }), []int{110, 160}},
		{dome(func(d *api.Dome) { d.Rounds, d.Widths, d.Slope = d.Rounds[:2], d.Widths[:2], 49 }), nil},
		{dome(func(d *api.Dome) {
			d.Rounds, d.Slope = []api.Span{span(600, 650), span(800, 808), span(600, 650)}, 45
		}), []int{165, 210, 165}},
		{dome(func(d *api.Dome) { d.Rounds, d.Widths, d.Loss = rows(12), slices.Repeat([]int{40}, 12), 20 }), slices.Repeat([]int{40}, 12)},
		{curved(0, span(0, 0)), []int{0}}, {curved(0, span(0, 7), span(0, 9)), []int{0, 0}}, {curved(0, span(7, 7)), []int{7}},
		// a wide row raises those before it and those behind it, step by step
		{curved(10, span(0, 100), span(0, 100), known(50), span(0, 100), span(0, 100)), []int{30, 40, 50, 40, 30}},
		{curved(30, span(0, 100), span(0, 100), known(50), span(0, 100), span(0, 100)), []int{0, 20, 50, 20, 0}},
		{curved(10, known(50), span(0, 100), span(0, 100), span(0, 100)), []int{50, 40, 30, 20}},
		{curved(10, span(0, 100), span(0, 100), span(0, 100), known(50)), []int{20, 30, 40, 50}},
		{curved(10, known(50), span(0, 100), span(0, 100), span(0, 100), known(60)), []int{50, 40, 40, 50, 60}},
		{curved(0, span(3, 20), span(9, 30), span(5, 9)), []int{9, 9, 9}}, {curved(0, span(3, 20), span(9, 30), span(5, 8)), nil},
		{curved(3, span(10, 90), span(0, 90), span(20, 90), span(15, 90)), []int{14, 17, 20, 17}},
		// a row that is far away is too narrow
		{curved(10, span(0, 29), span(0, 100), known(50)), nil}, {curved(10, span(0, 30), span(0, 100), known(50)), []int{30, 40, 50}},
		{curved(10, known(50), span(0, 100), span(0, 29)), nil}, {curved(10, known(50), span(0, 100), span(0, 30)), []int{50, 40, 30}},
		{curved(500, known(2000), span(0, 2000), span(0, 2000), span(0, 2000), span(0, 2000)), []int{2000, 1500, 1000, 500, 0}},
	} {
		l, e := cloth.Curve(x.d)
		n, g := cloth.Least(x.d)
		sum, want := 0, api.OK
		for _, width := range x.want {
			sum += width
		}
		if x.want == nil {
			want = api.ErrNone
		}
		if !slices.Equal(l, x.want) || n != sum || e != want || g != want {
			t.Errorf("%d: Curve = %v, error %d; Least = %d, error %d; want %v", i, l, e, n, g, x.want)
		}
	}
}
