package parts_test

import (
	"slices"
	"testing"

	"ferrule/api"
	"ferrule/parts"
)

const (
	surely  = api.Surely
	never   = api.Never
	perhaps = api.Perhaps
)

func span(low, high int) api.Span { return api.Span{Low: low, High: high} }

func spare(kind, section, low, high int) api.Spare {
	return api.Spare{Kind: kind, Section: section, Length: span(low, high)}
}

func slot(kind, low, high int, sections ...int) api.Slot {
	return api.Slot{Kind: kind, Sections: sections, Length: span(low, high)}
}

func maker(slots ...api.Slot) api.Make { return api.Make{Slots: slots} }

func trial(spare, maker, slot, fits int) api.Trial {
	return api.Trial{Spare: spare, Make: maker, Slot: slot, Fits: fits}
}

func job(maker, slot int) api.Job { return api.Job{Make: maker, Slot: slot} }

// workshopV is the workshop V of the chapter's examples, with trials.
func workshopV(table ...api.Trial) api.Workshop {
	return api.Workshop{
		Spares: []api.Spare{spare(1, 2, 300, 310), spare(1, 3, 305, 305), spare(2, 1, 50, 60), spare(1, 2, 320, 330)},
		Makes:  []api.Make{maker(slot(1, 300, 306, 2, 3), slot(2, 40, 58, 1)), maker(slot(1, 310, 326, 2))},
		Cut:    5, Table: table,
	}
}

// workshopW is the workshop W of the chapter's examples, with more trials.
func workshopW(more ...api.Trial) api.Workshop {
	return workshopV(append([]api.Trial{trial(0, 1, 0, 0)}, more...)...)
}

// jobsJ are the jobs J of the chapter's examples.
func jobsJ() []api.Job { return []api.Job{job(0, 0), job(0, 0), job(0, 1), job(1, 0)} }

// changed is a workshop with something else in it.
func changed(w api.Workshop, change func(w *api.Workshop)) api.Workshop {
	change(&w)
	return w
}

// lone is a workshop of one spare, of the kind 0 and the section 0, and a make
// without slots, behind which are makes of one slot each of such spares.
func lone(length api.Span, cut int, lengths ...api.Span) api.Workshop {
	w := api.Workshop{Spares: []api.Spare{spare(0, 0, length.Low, length.High)}, Makes: []api.Make{maker()}, Cut: cut}
	for _, l := range lengths {
		w.Makes = append(w.Makes, maker(slot(0, l.Low, l.High, 0)))
	}
	return w
}

// tried is one with a trial of each slot of its makes, as far as there are numbers.
func tried(w api.Workshop, fits ...int) api.Workshop {
	for i, n := range fits {
		w.Table = append(w.Table, trial(0, i+1, 0, n))
	}
	return w
}

// measured is a workshop, a spare, and its length.
type measured struct {
	w     api.Workshop
	spare int
	want  api.Span
}

func measureds() []measured {
	return []measured{
		{workshopW(), 0, span(300, 309)}, {workshopV(), 0, span(300, 310)}, {workshopW(), 1, span(305, 305)}, {workshopW(), 3, span(320, 330)},
		{lone(span(0, 999), 99), 0, span(0, 999)}, {lone(span(0, 0), 0), 0, span(0, 0)}, {lone(span(999, 999), 0), 0, span(999, 999)},
		// what fits is from Low to High and Cut more
		{tried(lone(span(10, 50), 0, span(20, 30)), 1), 0, span(20, 30)}, {tried(lone(span(10, 50), 5, span(20, 30)), 1), 0, span(20, 35)},
		{tried(lone(span(10, 50), 99, span(20, 30)), 1), 0, span(20, 50)}, {tried(lone(span(25, 50), 1, span(20, 30)), 1), 0, span(25, 31)},
		{tried(lone(span(900, 999), 99, span(950, 960)), 1), 0, span(950, 999)}, {tried(lone(span(0, 999), 0, span(0, 0)), 1), 0, span(0, 0)},
		{tried(lone(span(0, 999), 0, span(999, 999)), 1), 0, span(999, 999)}, {tried(lone(span(20, 35), 5, span(20, 30)), 1), 0, span(20, 35)},
		// what does not is below, or above
		{tried(lone(span(25, 50), 5, span(20, 30)), 0), 0, span(36, 50)}, {tried(lone(span(10, 35), 5, span(20, 30)), 0), 0, span(10, 19)},
		{tried(lone(span(19, 36), 5, span(20, 30)), 0), 0, span(19, 36)}, {tried(lone(span(20, 36), 5, span(20, 30)), 0), 0, span(36, 36)},
		{tried(lone(span(19, 35), 5, span(20, 30)), 0), 0, span(19, 19)}, {tried(lone(span(0, 999), 0, span(0, 998)), 0), 0, span(999, 999)},
		{tried(lone(span(0, 999), 0, span(1, 999)), 0), 0, span(0, 0)}, {tried(lone(span(40, 50), 5, span(20, 30)), 0), 0, span(40, 50)},
		// several trials of a spare, in any order
		{tried(lone(span(0, 99), 0, span(20, 30), span(28, 40)), 1, 1), 0, span(28, 30)}, {tried(lone(span(0, 99), 0, span(20, 30), span(28, 40)), 1, 0), 0, span(20, 27)},
		{tried(lone(span(0, 99), 0, span(20, 30), span(28, 40)), 0, 1), 0, span(31, 40)}, {tried(lone(span(20, 40), 0, span(20, 30), span(28, 39)), 0, 0), 0, span(40, 40)},
		{tried(lone(span(0, 99), 0, span(20, 30), span(22, 28)), 1, 0), 0, span(20, 30)}, {tried(lone(span(0, 99), 0, span(22, 28), span(20, 30)), 0, 1), 0, span(20, 30)},
		{tried(lone(span(0, 99), 0, span(20, 30), span(22, 28), span(29, 40)), 1, 0, 0), 0, span(20, 21)},
		{tried(lone(span(0, 99), 0, span(20, 30), span(22, 28), span(0, 21)), 1, 0, 0), 0, span(29, 30)},
		{tried(lone(span(10, 20), 0, span(14, 16), span(0, 13)), 0, 0), 0, span(17, 20)}, {tried(lone(span(10, 20), 0, span(12, 12), span(14, 14), span(16, 16), span(13, 15)), 0, 0, 0, 1), 0, span(13, 15)},
		// a spare of another kind, or of another section, fits with no length
		{changed(tried(lone(span(10, 50), 5, span(0, 999)), 0), func(w *api.Workshop) { w.Spares[0].Kind = 1 }), 0, span(10, 50)},
		{changed(tried(lone(span(10, 50), 5, span(0, 999)), 0), func(w *api.Workshop) { w.Spares[0].Section = 1 }), 0, span(10, 50)},
		{changed(tried(lone(span(10, 50), 5, span(0, 999)), 0), func(w *api.Workshop) { w.Makes[1].Slots[0].Sections = nil }), 0, span(10, 50)},
		{changed(tried(lone(span(10, 50), 5, span(20, 30)), 1), func(w *api.Workshop) { w.Makes[1].Slots[0].Sections = []int{0, 3, 5, 9} }), 0, span(20, 35)},
		{changed(tried(lone(span(10, 50), 5, span(20, 30)), 1), func(w *api.Workshop) {
			w.Makes[1].Slots[0].Sections, w.Spares[0].Section = []int{0, 3, 5, 9}, 9
		}), 0, span(20, 35)},
		// trials of a spare say nothing of others, nor does a trial that is there twice
		{workshopW(trial(2, 0, 1, 1), trial(3, 1, 0, 1), trial(1, 0, 0, 1)), 0, span(300, 309)}, {workshopW(trial(0, 0, 0, 1), trial(0, 1, 0, 0)), 3, span(320, 330)},
		{workshopW(trial(0, 1, 0, 0), trial(0, 1, 0, 0)), 0, span(300, 309)}, {workshopV(trial(0, 1, 0, 1)), 0, span(310, 310)},
	}
}

func TestP7_2Length(t *testing.T) {
	for i, x := range measureds() {
		if s, e := parts.Length(x.w, x.spare); s != x.want || e != api.OK {
			t.Errorf("%d: Length = %v, error %d; want %v", i, s, e, x.want)
		}
	}
}

// fitted is a workshop, a spare, and whether it fits a slot.
type fitted struct {
	w                  api.Workshop
	spare, maker, slot int
	want               int
}

func fitteds() []fitted {
	// the length is 10 to 13, or 17 to 20
	parted := func(room api.Span, want int) fitted {
		return fitted{tried(lone(span(10, 20), 0, span(14, 16), room), 0), 0, 2, 0, want}
	}
	one := func(length, room api.Span, cut, want int) fitted {
		return fitted{lone(length, cut, room), 0, 1, 0, want}
	}
	other := func(kind, section int, sections []int, want int) fitted {
		return fitted{api.Workshop{Spares: []api.Spare{spare(kind, section, 5, 5)}, Makes: []api.Make{maker(slot(3, 5, 5, sections...))}}, 0, 0, 0, want}
	}
	return []fitted{
		{workshopW(), 0, 0, 0, surely}, {workshopW(), 0, 1, 0, never}, {workshopV(), 0, 1, 0, perhaps}, {workshopV(trial(0, 1, 0, 1)), 0, 1, 0, surely},
		{workshopW(), 2, 0, 1, surely}, {workshopW(), 2, 0, 0, never}, {workshopW(), 3, 1, 0, surely}, {workshopW(), 1, 1, 0, never},
		one(span(20, 30), span(20, 30), 0, surely), one(span(19, 30), span(20, 30), 0, perhaps), one(span(20, 31), span(20, 30), 0, perhaps),
		one(span(10, 20), span(20, 30), 0, perhaps), one(span(30, 40), span(20, 30), 0, perhaps), one(span(10, 19), span(20, 30), 0, never), one(span(31, 40), span(20, 30), 0, never),
		one(span(20, 35), span(20, 30), 5, surely), one(span(20, 36), span(20, 30), 5, perhaps), one(span(35, 40), span(20, 30), 5, perhaps), one(span(36, 40), span(20, 30), 5, never),
		one(span(19, 19), span(20, 30), 5, never), one(span(10, 40), span(20, 30), 0, perhaps), one(span(999, 999), span(900, 900), 99, surely), one(span(999, 999), span(899, 899), 99, never),
		one(span(0, 0), span(0, 0), 0, surely), one(span(0, 0), span(1, 1), 99, never), one(span(0, 999), span(0, 999), 99, surely), one(span(999, 999), span(999, 999), 99, surely),
		parted(span(14, 16), never), parted(span(10, 20), surely), parted(span(10, 16), perhaps), parted(span(17, 30), perhaps), parted(span(10, 13), perhaps), parted(span(13, 13), perhaps),
		parted(span(21, 30), never), parted(span(11, 19), perhaps), parted(span(15, 15), never), parted(span(13, 17), perhaps),
		other(3, 4, []int{4}, surely), other(2, 4, []int{4}, never), other(3, 5, []int{4}, never), other(4, 3, []int{4}, never), other(3, 4, nil, never),
		other(3, 0, []int{0, 4, 7, 9}, surely), other(3, 7, []int{0, 4, 7, 9}, surely), other(3, 9, []int{0, 4, 7, 9}, surely), other(3, 8, []int{0, 4, 7, 9}, never), other(0, 9, []int{0, 4, 7, 9}, never),
	}
}

func TestP7_3Fits(t *testing.T) {
	for i, x := range fitteds() {
		if n, e := parts.Fits(x.w, x.spare, x.maker, x.slot); n != x.want || e != api.OK {
			t.Errorf("%d: Fits = %d, error %d; want %d", i, n, e, x.want)
		}
	}
}

// mended is a workshop, a list, and whether it mends a make.
type mended struct {
	w     api.Workshop
	list  []int
	maker int
	want  int
}

func mendeds() []mended {
	// each of the spares 0 to 2 fits one of the slots of each make at most; 3 fits the slot 0 of both
	some := spare(1, 0, 10, 31)
	apart := api.Workshop{
		Spares: []api.Spare{some, some, some, spare(1, 0, 10, 12)},
		Makes:  []api.Make{maker(slot(1, 10, 12, 0), slot(1, 20, 22, 0)), maker(slot(1, 10, 12, 0), slot(1, 20, 22, 0), slot(1, 30, 32, 0))},
	}
	// the spare has 10, 11 or 12: it fits both slots with 11 alone
	both := api.Workshop{
		Spares: []api.Spare{spare(1, 0, 10, 12)},
		Makes:  []api.Make{maker(slot(1, 10, 11, 0), slot(1, 11, 12, 0)), maker(slot(1, 11, 11, 0)), maker(slot(1, 10, 12, 0), slot(1, 10, 12, 0), slot(1, 0, 99, 0), slot(1, 10, 99, 0))},
	}
	not11 := changed(both, func(w *api.Workshop) { w.Table = []api.Trial{trial(0, 1, 0, 0)} })
	is11 := changed(both, func(w *api.Workshop) { w.Table = []api.Trial{trial(0, 1, 0, 1)} })
	// one of both has the greater length, but not surely
	halves := api.Workshop{Spares: []api.Spare{spare(1, 0, 10, 20), spare(1, 0, 10, 20)}, Makes: []api.Make{maker(slot(1, 10, 15, 0)), maker(slot(1, 10, 15, 0), slot(1, 16, 20, 0))}}
	return []mended{
		{workshopW(), []int{0, 2}, 0, surely}, {workshopW(), []int{1, 2}, 0, surely}, {workshopW(), []int{0, 1, 2, 3}, 0, surely}, {workshopW(), []int{0}, 0, never}, {workshopW(), []int{2}, 0, never}, {workshopW(), []int{0, 1}, 0, never},
		{workshopV(), []int{0}, 1, perhaps}, {workshopV(), []int{0, 3}, 1, surely}, {workshopW(), []int{0}, 1, never}, {workshopW(), []int{0, 1, 2}, 1, never}, {workshopW(), []int{3}, 1, surely}, {workshopW(), nil, 0, never}, {workshopW(), nil, 1, never},
		// nothing is needed to mend a make without slots
		{lone(span(0, 9), 0), nil, 0, surely}, {lone(span(0, 9), 0), []int{0}, 0, surely},
		{apart, []int{0}, 0, never}, {apart, []int{0, 1}, 0, perhaps}, {apart, []int{0, 1, 2}, 0, perhaps}, {apart, []int{0, 1}, 1, never}, {apart, []int{0, 1, 2}, 1, perhaps},
		{apart, []int{3}, 0, never}, {apart, []int{0, 3}, 0, perhaps}, {apart, []int{2, 3}, 1, never}, {apart, []int{0, 2, 3}, 1, perhaps}, {apart, []int{0, 1, 2, 3}, 1, perhaps},
		{both, []int{0}, 0, perhaps}, {not11, []int{0}, 0, never}, {is11, []int{0}, 0, surely}, {both, []int{0}, 2, surely}, {not11, []int{0}, 2, surely}, {not11, []int{0}, 1, never},
		{halves, []int{0}, 0, perhaps}, {halves, []int{0, 1}, 0, perhaps}, {halves, []int{0, 1}, 1, perhaps}, {halves, []int{1}, 1, never},
	}
}

func TestP7_4Mends(t *testing.T) {
	for i, x := range mendeds() {
		if n, e := parts.Mends(x.w, x.list, x.maker); n != x.want || e != api.OK {
			t.Errorf("%d: Mends = %d, error %d; want %d", i, n, e, x.want)
		}
	}
}

// matched is a workshop of so many spares, with a slot for each list of up to
// four spares that fit it; each make has up to four of these slots.
func matched(spares int, slots ...[]int) api.Workshop {
	var w api.Workshop
	for i := range spares {
		w.Spares = append(w.Spares, spare(0, i, 5, 5))
	}
	for chunk := range slices.Chunk(slots, 4) {
		var m api.Make
		for _, sections := range chunk {
			m.Slots = append(m.Slots, slot(0, 5, 5, sections...))
		}
		w.Makes = append(w.Makes, m)
	}
	return w
}

// kept is a workshop, and the lists of the fewest spares that mend all of it.
type kept struct {
	w      api.Workshop
	lists  [][]int
	needed []int
}

func kepts() []kept {
	v := func(length api.Span, table ...api.Trial) api.Workshop {
		return changed(workshopV(table...), func(w *api.Workshop) { w.Spares[0].Length = length })
	}
	none := [][]int{nil}
	// the slots of both makes are fitted by a spare of either make
	crossed := api.Workshop{
		Spares: []api.Spare{spare(1, 0, 10, 15), spare(1, 0, 14, 20), spare(1, 0, 10, 20)},
		Makes:  []api.Make{maker(slot(1, 10, 15, 0)), maker(slot(1, 14, 20, 0))},
	}
	return []kept{
		{workshopW(), [][]int{{0, 2, 3}, {1, 2, 3}}, []int{2, 3}}, {workshopV(), [][]int{{0, 2, 3}, {1, 2, 3}}, []int{2, 3}},
		{api.Workshop{}, none, nil}, {lone(span(0, 9), 0), none, nil}, {api.Workshop{Makes: []api.Make{{}, {}}}, none, nil}, {matched(3), none, nil},
		// the spare 0 has up to 311 with which it surely fits both slots of its kind, but not with 312
		{v(span(310, 311)), [][]int{{0, 2}}, []int{0, 2}}, {v(span(310, 312)), [][]int{{0, 1, 2}, {1, 2, 3}}, []int{1, 2}}, {v(span(310, 312), trial(0, 0, 0, 1)), [][]int{{0, 2}}, []int{0, 2}},
		{v(span(310, 311), trial(0, 0, 0, 1), trial(0, 1, 0, 1)), [][]int{{0, 2}}, []int{0, 2}},
		{matched(1, []int{0}), [][]int{{0}}, []int{0}}, {matched(2, []int{0, 1}), [][]int{{0}, {1}}, nil}, {matched(2, []int{0}, []int{1}), [][]int{{0, 1}}, []int{0, 1}},
		{matched(4, []int{0, 1}, []int{2, 3}), [][]int{{0, 2}, {0, 3}, {1, 2}, {1, 3}}, nil}, {matched(3, []int{0, 1}, []int{1, 2}, []int{0, 2}), [][]int{{0, 1}, {0, 2}, {1, 2}}, nil},
		{matched(4, []int{1, 3}, []int{0}, []int{1, 3}, []int{2, 3}), [][]int{{0, 3}}, []int{0, 3}},
		// the spare that fits most slots is not one of the fewest
		{matched(3, []int{0, 1}, []int{0, 1}, []int{1}, []int{0, 2}, []int{0, 2}, []int{2}), [][]int{{1, 2}}, []int{1, 2}},
		{matched(10, []int{0}, []int{1}, []int{2}, []int{3}, []int{4}, []int{5}, []int{6}, []int{7}, []int{8}, []int{9}), [][]int{{0, 1, 2, 3, 4, 5, 6, 7, 8, 9}}, []int{0, 1, 2, 3, 4, 5, 6, 7, 8, 9}},
		{matched(10, []int{0, 9}, []int{1, 9}, []int{2, 9}, []int{3, 9}, []int{4, 9}, []int{5, 9}, []int{6, 9}, []int{7, 8, 9}), [][]int{{9}}, []int{9}},
		{matched(10, []int{2, 3, 7}, []int{4, 7, 9}, []int{2, 9}, []int{0, 2, 7}), [][]int{{2, 4}, {2, 7}, {2, 9}, {7, 9}}, nil},
		{crossed, [][]int{{0, 1}}, []int{0, 1}}, {changed(crossed, func(w *api.Workshop) { w.Table = []api.Trial{trial(2, 0, 0, 1), trial(2, 1, 0, 1)} }), [][]int{{2}}, []int{2}},
		{changed(crossed, func(w *api.Workshop) { w.Table = []api.Trial{trial(0, 1, 0, 1)} }), [][]int{{0}}, []int{0}},
		{changed(crossed, func(w *api.Workshop) { w.Table = []api.Trial{trial(2, 0, 0, 0)} }), [][]int{{0, 1}, {0, 2}}, []int{0}},
	}
}

func TestP7_5Fewest(t *testing.T) {
	for i, x := range kepts() {
		if n, e := parts.Fewest(x.w); n != len(x.lists[0]) || e != api.OK {
			t.Errorf("%d: Fewest = %d, error %d; want %d", i, n, e, len(x.lists[0]))
		}
	}
}

func TestP7_6Keep(t *testing.T) {
	for i, x := range kepts() {
		l, e := parts.Keep(x.w)
		if e != api.OK || !slices.ContainsFunc(x.lists, func(o []int) bool { return slices.Equal(o, l) }) {
			t.Errorf("%d: Keep = %v, error %d; want one of %v", i, l, e, x.lists)
		}
	}
}

func TestP7_7Needed(t *testing.T) {
	for i, x := range kepts() {
		if l, e := parts.Needed(x.w); !slices.Equal(l, x.needed) || e != api.OK {
			t.Errorf("%d: Needed = %v, error %d; want %v", i, l, e, x.needed)
		}
	}
}

// unmended are workshops with a truth, all of which no list mends.
func unmended() []api.Workshop {
	two := api.Workshop{Spares: []api.Spare{spare(1, 0, 10, 20), spare(1, 0, 10, 20)}, Makes: []api.Make{maker(slot(1, 10, 15, 0)), maker(slot(1, 16, 20, 0))}}
	return []api.Workshop{
		changed(workshopW(), func(w *api.Workshop) { w.Spares = w.Spares[:3] }),
		changed(workshopW(), func(w *api.Workshop) { w.Spares[2].Section = 2 }),
		changed(workshopW(), func(w *api.Workshop) { w.Cut = 3 }),
		changed(workshopV(), func(w *api.Workshop) { w.Spares, w.Makes = nil, w.Makes[:1] }),
		two, matched(2, []int{0, 1}, nil), matched(2, []int{1}, []int{1}, []int{1}, []int{0}, []int{2}),
		// what fits perhaps is not enough, also if there are many of it
		changed(two, func(w *api.Workshop) { w.Spares, w.Makes = slices.Repeat(w.Spares, 5), w.Makes[:1] }),
	}
}

func TestP7_5NoList(t *testing.T) {
	for i, w := range unmended() {
		if n, e := parts.Fewest(w); n != 0 || e != api.ErrNone {
			t.Errorf("%d: Fewest = %d, error %d", i, n, e)
		}
		if l, e := parts.Keep(w); len(l) > 0 || e != api.ErrNone {
			t.Errorf("%d: Keep = %v, error %d", i, l, e)
		}
		if l, e := parts.Needed(w); len(l) > 0 || e != api.ErrNone {
			t.Errorf("%d: Needed = %v, error %d", i, l, e)
		}
		if e := parts.Check(w); e != api.OK {
			t.Errorf("%d: Check: error %d", i, e)
		}
		if _, e := parts.Most(w, make([]int, len(w.Spares)), nil); e != api.OK {
			t.Errorf("%d: Most: error %d", i, e)
		}
	}
}

// worked is a workshop, a stock, jobs, and how many of them can be done.
type worked struct {
	w     api.Workshop
	stock []int
	jobs  []api.Job
	want  int
}

// all are the jobs of a workshop: each slot once.
func all(w api.Workshop) []api.Job {
	var jobs []api.Job
	for i, m := range w.Makes {
		for k := range m.Slots {
			jobs = append(jobs, job(i, k))
		}
	}
	return jobs
}

// matchedWork is the work of all slots of such a workshop.
func matchedWork(want int, stock []int, slots ...[]int) worked {
	w := matched(len(stock), slots...)
	return worked{w, stock, all(w), want}
}

func workeds() []worked {
	ten := slices.Repeat([]int{1}, 10)
	first := changed(workshopV(), func(w *api.Workshop) { w.Spares[0].Length = span(310, 311) })
	// the last job is done only if each of the others gives its spare away
	var chain, back [][]int
	for i := range 9 {
		chain = append(chain, []int{i, i + 1})
	}
	chain = append(chain, []int{0})
	for i := range 9 {
		back = append(back, []int{8 - i, 9 - i})
	}
	back = append(back, []int{9})
	return []worked{
		{workshopW(), []int{1, 0, 1, 1}, jobsJ(), 3}, {workshopW(), []int{1, 1, 1, 1}, jobsJ(), 4}, {workshopW(), []int{0, 2, 0, 0}, jobsJ(), 2}, {workshopW(), []int{0, 0, 0, 0}, jobsJ(), 0},
		{workshopW(), []int{9, 9, 9, 9}, nil, 0}, {workshopW(), []int{5, 0, 0, 0}, jobsJ(), 2}, {api.Workshop{}, nil, nil, 0}, {lone(span(0, 0), 0), []int{10}, nil, 0},
		// what fits perhaps is not given
		{workshopV(), []int{5, 0, 0, 0}, jobsJ(), 2}, {workshopV(trial(0, 1, 0, 1)), []int{5, 0, 0, 0}, jobsJ(), 3}, {workshopV(), []int{10, 10, 10, 0}, []api.Job{job(1, 0), job(1, 0)}, 0},
		{first, []int{1, 1, 0, 0}, []api.Job{job(0, 0), job(1, 0)}, 2}, {first, []int{1, 1, 0, 0}, []api.Job{job(1, 0), job(0, 0), job(0, 0)}, 2}, {first, []int{0, 1, 0, 0}, []api.Job{job(1, 0), job(0, 0), job(0, 0)}, 1},
		{workshopW(), []int{0, 0, 0, 10}, slices.Repeat([]api.Job{job(1, 0)}, 10), 10}, {workshopW(), []int{0, 0, 0, 9}, slices.Repeat([]api.Job{job(1, 0)}, 10), 9}, {workshopW(), []int{3, 4, 0, 10}, slices.Repeat([]api.Job{job(0, 0)}, 10), 7},
		matchedWork(2, []int{1, 1}, []int{0, 1}, []int{0}), matchedWork(2, []int{1, 1}, []int{0}, []int{0, 1}), matchedWork(2, []int{1, 1}, []int{0, 1}, []int{1}), matchedWork(1, []int{1, 1}, []int{0}, []int{0}),
		matchedWork(2, []int{2, 0}, []int{0, 1}, []int{0}, []int{1}), matchedWork(3, []int{1, 2}, []int{0, 1}, []int{1}, []int{0, 1}, []int{0}), matchedWork(0, []int{10, 10}, nil, nil), matchedWork(1, []int{0, 1}, nil, []int{0}, []int{0, 1}),
		// three jobs for two spares, and one for a spare of which there are many
		matchedWork(3, []int{1, 1, 5}, []int{0, 1}, []int{2}, []int{0, 1}, []int{0, 1}), matchedWork(4, []int{1, 1, 5}, []int{0, 1}, []int{2}, []int{0, 1}, []int{0, 1, 2}),
		matchedWork(10, ten, chain...), matchedWork(10, ten, back...), matchedWork(9, []int{1, 1, 1, 1, 0, 1, 1, 1, 1, 1}, chain...), matchedWork(9, []int{1, 1, 1, 1, 1, 1, 1, 1, 1, 0}, chain...),
		matchedWork(9, []int{1, 1, 1, 1, 0, 1, 1, 1, 1, 2}, chain...), matchedWork(9, []int{2, 1, 1, 1, 1, 1, 1, 1, 1, 0}, chain[:9]...),
	}
}

func TestP7_8Most(t *testing.T) {
	for i, x := range workeds() {
		if n, e := parts.Most(x.w, x.stock, x.jobs); n != x.want || e != api.OK {
			t.Errorf("%d: Most = %d, error %d; want %d", i, n, e, x.want)
		}
	}
}

// isWork tells whether work gives so many jobs a spare, as it can be given.
func isWork(x worked, given []int) bool {
	if len(given) != len(x.jobs) {
		return false
	}
	many, left := 0, slices.Clone(x.stock)
	for i, s := range given {
		if s == -1 {
			continue
		}
		n, e := parts.Fits(x.w, s, x.jobs[i].Make, x.jobs[i].Slot)
		if n != surely || e != api.OK || left[s] == 0 {
			return false
		}
		left[s]--
		many++
	}
	return many == x.want
}

func TestP7_9Work(t *testing.T) {
	for i, x := range workeds() {
		if l, e := parts.Work(x.w, x.stock, x.jobs); !isWork(x, l) || e != api.OK {
			t.Errorf("%d: Work = %v, error %d", i, l, e)
		}
	}
}

// lack is the number of some jobs, less that of the spares in the stock that surely fit one of them.
func lack(x worked, some []int) int {
	lack := len(some)
	for s, many := range x.stock {
		if slices.ContainsFunc(some, func(number int) bool {
			n, _ := parts.Fits(x.w, s, x.jobs[number].Make, x.jobs[number].Slot)
			return n == surely
		}) {
			lack -= many
		}
	}
	return lack
}

// isShort tells whether some jobs show why it is not more.
func isShort(x worked, some []int) bool {
	for i, number := range some {
		if number < 0 || number >= len(x.jobs) || i > 0 && number <= some[i-1] {
			return false
		}
	}
	return lack(x, some) == len(x.jobs)-x.want
}

func TestP7_10Short(t *testing.T) {
	for i, x := range workeds() {
		if l, e := parts.Short(x.w, x.stock, x.jobs); !isShort(x, l) || e != api.OK {
			t.Errorf("%d: Short = %v, error %d", i, l, e)
		}
	}
}
