package parts_test

import (
	"math"
	"reflect"
	"slices"
	"strconv"
	"testing"

	"ferrule/api"
	"ferrule/parts"
)

// laden is a valid workshop of which any one number can be changed.
func laden() api.Workshop {
	return api.Workshop{
		Spares: []api.Spare{spare(1, 2, 300, 310), spare(1, 3, 305, 305), spare(2, 1, 50, 60)},
		Makes: []api.Make{
			maker(slot(1, 300, 306, 2, 3), slot(2, 40, 58, 1), slot(1, 0, 9, 0, 4, 5, 9)),
			maker(slot(1, 310, 326, 2), slot(3, 7, 7)),
		},
		Cut: 5, Table: []api.Trial{trial(0, 1, 0, 0), trial(2, 0, 2, 0), trial(1, 1, 1, 0)},
	}
}

func copied(w api.Workshop) api.Workshop {
	w.Spares, w.Makes, w.Table = slices.Clone(w.Spares), slices.Clone(w.Makes), slices.Clone(w.Table)
	for i, m := range w.Makes {
		w.Makes[i].Slots = slices.Clone(m.Slots)
		for k, s := range m.Slots {
			w.Makes[i].Slots[k].Sections = slices.Clone(s.Sections)
		}
	}
	return w
}

// number is one number of a workshop, set and checked by itself.
type number struct {
	name      string
	set       func(w *api.Workshop, n int)
	low, high int // the least and the greatest one that is valid in the workshop laden
}

func numbers() []number {
	all := []number{{"Cut", func(w *api.Workshop, n int) { w.Cut = n }, 0, 99}}
	for i, s := range laden().Spares {
		of := " of the spare " + strconv.Itoa(i)
		all = append(all,
			number{"Kind" + of, func(w *api.Workshop, n int) { w.Spares[i].Kind = n }, 0, 9},
			number{"Section" + of, func(w *api.Workshop, n int) { w.Spares[i].Section = n }, 0, 9},
			number{"Low" + of, func(w *api.Workshop, n int) { w.Spares[i].Length.Low = n }, 0, s.Length.High},
			number{"High" + of, func(w *api.Workshop, n int) { w.Spares[i].Length.High = n }, s.Length.Low, 999},
		)
	}
	for i, m := range laden().Makes {
		for k, s := range m.Slots {
			all = append(all, numbersOf(i, k, s)...)
		}
	}
	for i, t := range laden().Table {
		of := " of the trial " + strconv.Itoa(i)
		makes := 1
		if t.Slot == 2 { // only the first make has it
			makes = 0
		}
		all = append(all,
			number{"Spare" + of, func(w *api.Workshop, n int) { w.Table[i].Spare = n }, 0, 2},
			number{"Make" + of, func(w *api.Workshop, n int) { w.Table[i].Make = n }, 0, makes},
			number{"Slot" + of, func(w *api.Workshop, n int) { w.Table[i].Slot = n }, 0, 2 - t.Make},
			number{"Fits" + of, func(w *api.Workshop, n int) { w.Table[i].Fits = n }, 0, 1},
		)
	}
	return all
}

func numbersOf(i, k int, s api.Slot) []number {
	of := " of the slot " + strconv.Itoa(k) + " of the make " + strconv.Itoa(i)
	all := []number{
		{"Kind" + of, func(w *api.Workshop, n int) { w.Makes[i].Slots[k].Kind = n }, 0, 9},
		{"Low" + of, func(w *api.Workshop, n int) { w.Makes[i].Slots[k].Length.Low = n }, 0, s.Length.High},
		{"High" + of, func(w *api.Workshop, n int) { w.Makes[i].Slots[k].Length.High = n }, s.Length.Low, 999},
	}
	for j := range s.Sections {
		low, high := 0, 9
		if j > 0 {
			low = s.Sections[j-1] + 1
		}
		if j+1 < len(s.Sections) {
			high = s.Sections[j+1] - 1
		}
		all = append(all, number{"section " + strconv.Itoa(j) + of, func(w *api.Workshop, n int) { w.Makes[i].Slots[k].Sections[j] = n }, low, high})
	}
	return all
}

// wrongs are changes each of which alone makes the workshop laden invalid.
func wrongs() map[string]func(w *api.Workshop) {
	sections := func(all ...int) func(w *api.Workshop) {
		return func(w *api.Workshop) { w.Makes[0].Slots[1].Sections = all }
	}
	length := func(s api.Span) func(w *api.Workshop) {
		return func(w *api.Workshop) { w.Spares[1].Length, w.Makes[0].Slots[1].Length = s, s }
	}
	all := map[string]func(w *api.Workshop){
		"eleven spares":           func(w *api.Workshop) { w.Spares = append(make([]api.Spare, 8), w.Spares...) },
		"many spares":             func(w *api.Workshop) { w.Spares = append(w.Spares, make([]api.Spare, 1000)...) },
		"seven makes":             func(w *api.Workshop) { w.Makes = append(w.Makes, make([]api.Make, 5)...) },
		"many makes":              func(w *api.Workshop) { w.Makes = append(w.Makes, make([]api.Make, 1000)...) },
		"five slots":              func(w *api.Workshop) { w.Makes[1].Slots = append(w.Makes[1].Slots, make([]api.Slot, 3)...) },
		"five slots of the other": func(w *api.Workshop) { w.Makes[0].Slots = append(w.Makes[0].Slots, make([]api.Slot, 2)...) },
		"five sections":           sections(0, 1, 2, 3, 4),
		"many sections":           sections(0, 1, 2, 3, 4, 5, 6, 7, 8, 9, 10, 11),
		"a section twice":         sections(3, 3),
		"sections that descend":   sections(3, 2),
		"the last two sections":   sections(1, 2, 9, 9),
		"the first two sections":  sections(4, 1, 8, 9),
		"31 trials":               func(w *api.Workshop) { w.Table = slices.Repeat(w.Table[:1], 31) },
		"many trials":             func(w *api.Workshop) { w.Table = slices.Repeat(w.Table[:1], 3100) },
		"lengths below 0":         length(span(-2, -1)),
		"lengths above all":       length(span(1000, 1000)),
		"lengths of all numbers":  length(span(math.MinInt, math.MaxInt)),
		"lengths that are turned": length(span(5, 4)),
		"no spares":               func(w *api.Workshop) { w.Spares = nil },
		"a spare less":            func(w *api.Workshop) { w.Spares = w.Spares[:2] },
		"no makes":                func(w *api.Workshop) { w.Makes = nil },
		"a make less":             func(w *api.Workshop) { w.Makes = w.Makes[:1] },
		"no slots":                func(w *api.Workshop) { w.Makes[1].Slots = nil },
		"a slot less":             func(w *api.Workshop) { w.Makes[0].Slots = w.Makes[0].Slots[:2] },
		"the last of ten spares":  func(w *api.Workshop) { w.Spares = append(w.Spares, append(make([]api.Spare, 6), spare(0, 0, 1, 0))...) },
		"the last of six makes": func(w *api.Workshop) {
			w.Makes = append(w.Makes, append(make([]api.Make, 3), maker(slot(-1, 0, 0)))...)
		},
		"the last of 30 trials": func(w *api.Workshop) { w.Table = append(slices.Repeat(w.Table[:1], 29), trial(0, 0, 0, 2)) },
	}
	for _, x := range numbers() {
		for name, n := range map[string]int{
			" too small": x.low - 1, " too great": x.high + 1, " least of all": math.MinInt, " greatest of all": math.MaxInt,
		} {
			all[x.name+name] = func(w *api.Workshop) { x.set(w, n) }
		}
	}
	return all
}

// clashing are valid workshops, with trials that clash.
func clashing() []api.Workshop {
	all := []api.Workshop{
		workshopW(trial(0, 1, 0, 1)), workshopV(trial(0, 1, 0, 1), trial(0, 1, 0, 0)), workshopW(trial(1, 0, 0, 1), trial(2, 0, 1, 1), trial(0, 1, 0, 1)),
		workshopW(trial(3, 1, 0, 0), trial(2, 0, 1, 1), trial(2, 0, 1, 1), trial(2, 0, 1, 0)),
	}
	late := workshopV(slices.Repeat([]api.Trial{trial(3, 1, 0, 1)}, 30)...)
	late.Table[29].Fits = 0
	return append(all, late)
}

// untrue are workshops whose trials do not clash, without a truth.
func untrue() []api.Workshop {
	other := func(change func(s *api.Spare)) api.Workshop {
		return changed(tried(lone(span(5, 5), 0, span(5, 5)), 1), func(w *api.Workshop) { change(&w.Spares[0]) })
	}
	return []api.Workshop{
		workshopW(trial(1, 0, 0, 0)), workshopW(trial(1, 1, 0, 1)), workshopW(trial(0, 0, 1, 1)), workshopV(trial(0, 1, 0, 1), trial(0, 0, 0, 0)), workshopV(trial(3, 0, 0, 1)), workshopV(trial(2, 0, 1, 0)),
		other(func(s *api.Spare) { s.Kind = 1 }), other(func(s *api.Spare) { s.Section = 1 }), other(func(s *api.Spare) { s.Length = span(6, 6) }), other(func(s *api.Spare) { s.Length = span(0, 4) }),
		tried(lone(span(20, 30), 0, span(20, 25), span(26, 30)), 0, 0), tried(lone(span(0, 999), 0, span(20, 25), span(26, 30)), 1, 1),
		tried(lone(span(20, 31), 5, span(20, 25), span(28, 29)), 0, 0), tried(lone(span(0, 999), 99, span(0, 900)), 0),
		tried(lone(span(10, 12), 0, span(10, 10), span(11, 11), span(12, 12)), 0, 0, 0),
	}
}

func TestP7_1Check(t *testing.T) {
	for _, x := range numbers() {
		for _, n := range []int{x.low, (x.low + x.high) / 2, x.high} {
			w := laden()
			x.set(&w, n)
			if e := parts.Check(w); e != api.OK {
				t.Errorf("%s of %d: error %d", x.name, n, e)
			}
		}
	}
	for name, change := range wrongs() {
		w := laden()
		change(&w)
		if e := parts.Check(w); e != api.ErrWorkshop {
			t.Errorf("%s: error %d", name, e)
		}
	}
	for i, w := range clashing() {
		if e := parts.Check(w); e != api.ErrTrial {
			t.Errorf("%d: error %d", i, e)
		}
	}
}

func TestP7_1CheckEnds(t *testing.T) {
	many := api.Workshop{
		Spares: slices.Repeat([]api.Spare{spare(9, 9, 0, 999)}, 10),
		Makes:  slices.Repeat([]api.Make{maker(slices.Repeat([]api.Slot{slot(9, 0, 999, 0, 1, 8, 9)}, 4)...)}, 6),
		Cut:    99, Table: slices.Repeat([]api.Trial{trial(9, 5, 3, 1)}, 30),
	}
	all := []api.Workshop{
		{}, {Cut: 99}, {Spares: []api.Spare{{}}}, {Makes: []api.Make{{}}}, laden(), workshopW(), workshopV(), many,
		{Makes: slices.Repeat([]api.Make{maker(make([]api.Slot, 4)...)}, 6)}, {Spares: make([]api.Spare, 10), Makes: make([]api.Make, 6)},
		// trials of which only the spare, the make, or the slot differs
		workshopW(trial(3, 1, 0, 1), trial(0, 0, 0, 1), trial(1, 1, 0, 1)), {Spares: make([]api.Spare, 1), Makes: []api.Make{maker(make([]api.Slot, 2)...)}, Table: []api.Trial{trial(0, 0, 0, 1), trial(0, 0, 1, 0)}},
		workshopW(trial(0, 1, 0, 0), trial(0, 1, 0, 0)),
	}
	// one without a truth is valid, and so is one that no list mends
	for i, w := range slices.Concat(all, untrue(), unmended()) {
		if e := parts.Check(w); e != api.OK {
			t.Errorf("%d: error %d", i, e)
		}
	}
}

// answer is what a function returned, and whether it returned nothing but an error.
type answer struct {
	name  string
	value any
	zero  bool
	e     api.Errno
}

func answerOf[T any](name string, value T, e api.Errno) answer {
	v := reflect.ValueOf(value)
	zero := v.IsZero() || v.Kind() == reflect.Slice && v.Len() == 0
	return answer{name, value, zero, e}
}

// asked is what is asked of a workshop.
type asked struct {
	spare, maker, slot int
	list               []int
	stock              []int
	jobs               []api.Job
}

func ofSpare(w api.Workshop, a asked) []answer {
	length, e := parts.Length(w, a.spare)
	return append(ofSlot(w, a), answerOf("Length", length, e))
}

func ofSlot(w api.Workshop, a asked) []answer {
	fits, e := parts.Fits(w, a.spare, a.maker, a.slot)
	return []answer{answerOf("Fits", fits, e)}
}

func ofList(w api.Workshop, a asked) []answer {
	mends, e := parts.Mends(w, a.list, a.maker)
	return []answer{answerOf("Mends", mends, e)}
}

func ofMake(w api.Workshop, a asked) []answer { return append(ofSlot(w, a), ofList(w, a)...) }

func ofStock(w api.Workshop, a asked) []answer {
	most, e := parts.Most(w, a.stock, a.jobs)
	work, f := parts.Work(w, a.stock, a.jobs)
	short, g := parts.Short(w, a.stock, a.jobs)
	return []answer{answerOf("Most", most, e), answerOf("Work", work, f), answerOf("Short", short, g)}
}

func ofAll(w api.Workshop, _ asked) []answer {
	fewest, e := parts.Fewest(w)
	keep, f := parts.Keep(w)
	needed, g := parts.Needed(w)
	return []answer{answerOf("Fewest", fewest, e), answerOf("Keep", keep, f), answerOf("Needed", needed, g)}
}

func allOf(w api.Workshop, a asked) []answer {
	return slices.Concat(ofSpare(w, a), ofList(w, a), ofStock(w, a), ofAll(w, a))
}

func wantErrors(t *testing.T, what string, all []answer, e api.Errno) {
	t.Helper()
	for _, x := range all {
		if x.e != e || !x.zero {
			t.Errorf("%s: %s = %v, error %d; want error %d", what, x.name, x.value, x.e, e)
		}
	}
}

// first are questions that can be asked of any workshop with a spare and a slot.
func first(w api.Workshop) asked {
	a := asked{list: []int{0}, stock: make([]int, len(w.Spares))}
	for a.maker < len(w.Makes) && len(w.Makes[a.maker].Slots) == 0 {
		a.maker++
	}
	a.jobs = []api.Job{job(a.maker, 0)}
	return a
}

// invalid is a question that is invalid for W, and all answers to it.
type invalid struct {
	name   string
	change func(a *asked)
	of     func(w api.Workshop, a asked) []answer
}

func invalids() []invalid {
	var all []invalid
	add := func(name string, of func(w api.Workshop, a asked) []answer, change func(a *asked)) {
		all = append(all, invalid{name, change, of})
	}
	extremes := []int{-1, math.MinInt, math.MaxInt}
	for _, n := range append(extremes, 4, 5) {
		add("another spare", ofSpare, func(a *asked) { a.spare = n })
		add("another make", ofMake, func(a *asked) { a.maker = n })
		add("another slot", ofSlot, func(a *asked) { a.slot = n })
		add("another spare in a list", ofList, func(a *asked) { a.list = []int{n} })
		add("another make of a job", ofStock, func(a *asked) { a.jobs = []api.Job{job(n, 0)} })
		add("another slot of a job", ofStock, func(a *asked) { a.jobs = []api.Job{job(0, n)} })
	}
	add("a slot that the other make has", ofSlot, func(a *asked) { a.maker, a.slot = 1, 1 })
	for _, l := range [][]int{{0, 0}, {1, 0}, {0, 2, 1}, {0, 1, 2, 3, 3}, {0, 4}, {-1, 0}, {0, 1, 2, 3, 4}, {3, 0}, make([]int, 1000)} {
		add("an invalid list", ofList, func(a *asked) { a.list = l })
	}
	for _, l := range [][]int{nil, {0, 0, 0}, {0, 0, 0, 0, 0}, {11, 0, 0, 0}, {0, 0, 0, 11}, {-1, 0, 0, 0}, {0, 0, 0, -1}, {0, math.MaxInt, 0, 0}, {0, math.MinInt, 0, 0}, make([]int, 1000)} {
		add("an invalid stock", ofStock, func(a *asked) { a.stock = l })
		add("an invalid stock without jobs", ofStock, func(a *asked) { a.stock, a.jobs = l, nil })
	}
	for _, j := range []api.Job{job(0, 2), job(1, 1), job(2, 0), job(-1, 0), job(0, -1)} {
		add("an invalid job", ofStock, func(a *asked) { a.jobs = []api.Job{j} })
		add("an invalid job behind others", ofStock, func(a *asked) { a.jobs = append(jobsJ(), j) })
		add("an invalid job before others", ofStock, func(a *asked) { a.jobs = append([]api.Job{j}, jobsJ()...) })
	}
	add("eleven jobs", ofStock, func(a *asked) { a.jobs = make([]api.Job, 11) })
	add("many jobs", ofStock, func(a *asked) { a.jobs = make([]api.Job, 1000) })
	return all
}

// An invalid workshop comes before trials that clash, and these before questions that are invalid.
func TestP1InvalidWorkshops(t *testing.T) {
	for name, change := range wrongs() {
		w := laden()
		change(&w)
		wantErrors(t, name, allOf(w, first(laden())), api.ErrWorkshop)
		for _, n := range []int{-1, 3, 11, math.MinInt, math.MaxInt} {
			wantErrors(t, name, allOf(w, asked{n, n, n, []int{n}, []int{n}, []api.Job{job(n, n)}}), api.ErrWorkshop)
		}
	}
	for i, w := range clashing() {
		if e := parts.Check(w); e != api.ErrTrial {
			t.Errorf("%d: error %d", i, e)
		}
		wantErrors(t, "trials that clash", allOf(w, first(w)), api.ErrTrial)
		for _, x := range invalids() {
			a := first(w)
			x.change(&a)
			wantErrors(t, x.name, x.of(w, a), api.ErrTrial)
		}
		w.Cut = -1
		wantErrors(t, "trials that clash, and a Cut below 0", append(allOf(w, first(w)), answerOf("Check", 0, parts.Check(w))), api.ErrWorkshop)
	}
}

// Questions that are invalid come before workshops without a truth.
func TestP1InvalidQuestions(t *testing.T) {
	for _, w := range []api.Workshop{workshopW(), workshopV(), workshopW(trial(1, 0, 0, 0)), workshopV(trial(0, 0, 1, 1))} {
		for _, x := range invalids() {
			a := first(w)
			x.change(&a)
			wantErrors(t, x.name, x.of(w, a), api.ErrArg)
		}
	}
	ends := asked{spare: 3, maker: 1, list: []int{0, 1, 2, 3}, stock: []int{10, 10, 0, 10}, jobs: make([]api.Job, 10)}
	for _, x := range append(allOf(workshopW(), ends), allOf(workshopW(), first(workshopW()))...) {
		if x.e != api.OK {
			t.Errorf("%s: error %d", x.name, x.e)
		}
	}
	// nothing is one of a workshop of nothing, but its makes can be mended with no spares
	none := api.Workshop{Makes: []api.Make{{}}}
	wantErrors(t, "no spares", ofSpare(none, asked{}), api.ErrArg)
	wantErrors(t, "no spares", ofList(none, asked{list: []int{0}}), api.ErrArg)
	wantErrors(t, "no makes", ofMake(api.Workshop{Spares: make([]api.Spare, 1)}, asked{}), api.ErrArg)
	wantErrors(t, "no slots", ofSlot(api.Workshop{Spares: make([]api.Spare, 1), Makes: none.Makes}, asked{}), api.ErrArg)
	wantErrors(t, "no slots", ofStock(none, asked{jobs: make([]api.Job, 1)}), api.ErrArg)
	for _, x := range slices.Concat(ofList(none, asked{}), ofStock(none, asked{}), ofAll(none, asked{})) {
		if x.e != api.OK {
			t.Errorf("%s of no spares: error %d", x.name, x.e)
		}
	}
}

// Without a truth nothing is known, whatever is asked, also of spares that were not tried.
func TestP1NoTruth(t *testing.T) {
	for i, w := range untrue() {
		name := "no truth: " + strconv.Itoa(i)
		wantErrors(t, name, allOf(w, first(w)), api.ErrNone)
		for spare := range w.Spares {
			a := first(w)
			a.spare, a.list, a.jobs = spare, nil, nil
			wantErrors(t, name, allOf(w, a), api.ErrNone)
		}
		a := first(w)
		a.maker = 0
		wantErrors(t, name, ofList(w, a), api.ErrNone)
	}
}

// Arguments stay as they are, results are new memory, and the same is returned each time.
func TestP1Memory(t *testing.T) {
	for _, w := range []api.Workshop{workshopW(), workshopV(), laden(), matched(3, []int{0, 1}, []int{1, 2}, []int{0, 2})} {
		a := first(w)
		a.list, a.jobs = []int{0, 2}, append(a.jobs, a.jobs...)
		for i := range a.stock {
			a.stock[i] = i % 2
		}
		before, b := copied(w), a
		b.list, b.stock, b.jobs = slices.Clone(a.list), slices.Clone(a.stock), slices.Clone(a.jobs)
		was := allOf(w, a)
		for _, x := range allOf(w, a) {
			if list, ok := x.value.([]int); ok {
				clear(list[:cap(list)])
			}
		}
		if !reflect.DeepEqual(w, before) || !reflect.DeepEqual(a, b) {
			t.Errorf("%v, %v became %v, %v", before, b, w, a)
		}
		if again := allOf(w, a); !reflect.DeepEqual(was, again) {
			t.Errorf("%v: %v, then %v", before, was, again)
		}
	}
}

// The capacity of lists does not matter, and nothing behind their ends is changed.
func TestP1Capacity(t *testing.T) {
	w := laden()
	a := asked{list: []int{0, 2}, stock: []int{1, 0, 2}, jobs: []api.Job{job(0, 0), job(0, 1), job(0, 0)}}
	want := allOf(w, a)
	spares, makes, table := append(w.Spares, spare(-1, 0, 0, 0)), append(w.Makes, maker(slot(-1, 0, 0))), append(w.Table, trial(0, 1, 0, 1))
	list, stock, jobs := append(a.list, 1), append(a.stock, 77), append(a.jobs, job(-1, -1))
	w.Spares, w.Makes, w.Table = spares[:3], makes[:2], table[:3]
	a.list, a.stock, a.jobs = list[:2], stock[:3], jobs[:3]
	if is := allOf(w, a); !reflect.DeepEqual(is, want) {
		t.Errorf("%v; want %v", is, want)
	}
	if spares[3] != spare(-1, 0, 0, 0) || makes[2].Slots[0].Kind != -1 || table[3] != trial(0, 1, 0, 1) || list[2] != 1 || stock[3] != 77 || jobs[3] != job(-1, -1) {
		t.Errorf("%v, %v, %v, %v, %v, %v", spares, makes, table, list, stock, jobs)
	}
}

// An empty list is as none.
func TestP1Empty(t *testing.T) {
	a, b := asked{stock: []int{1, 1, 1, 1}}, asked{stock: []int{1, 1, 1, 1}, list: []int{}, jobs: []api.Job{}}
	v := workshopV()
	v.Makes = append(v.Makes, api.Make{}, maker(api.Slot{}))
	w := copied(v)
	w.Table, w.Makes[2].Slots, w.Makes[3].Slots[0].Sections = []api.Trial{}, []api.Slot{}, []int{}
	for range 4 {
		if was, is := allOf(v, a), allOf(w, b); !reflect.DeepEqual(was, is) {
			t.Errorf("%v; %v", was, is)
		}
		a.maker, b.maker = a.maker+1, b.maker+1
	}
	none := api.Workshop{Spares: []api.Spare{}, Makes: []api.Make{}, Table: []api.Trial{}}
	if was, is := allOf(api.Workshop{}, asked{}), allOf(none, asked{list: []int{}, stock: []int{}, jobs: []api.Job{}}); !reflect.DeepEqual(was, is) {
		t.Errorf("%v; %v", was, is)
	}
}
