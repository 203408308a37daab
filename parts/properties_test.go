package parts_test

import (
	"math/big"
	"slices"
	"testing"

	"ferrule/api"
	"ferrule/frames"
	"ferrule/parts"
)

func length(w api.Workshop, spare int) api.Span { s, _ := parts.Length(w, spare); return s }

func fits(w api.Workshop, spare, maker, slot int) int {
	n, _ := parts.Fits(w, spare, maker, slot)
	return n
}

func mends(w api.Workshop, list []int, maker int) int { n, _ := parts.Mends(w, list, maker); return n }

func needed(w api.Workshop) []int { l, _ := parts.Needed(w); return l }

func most(w api.Workshop, stock []int, jobs []api.Job) int {
	n, _ := parts.Most(w, stock, jobs)
	return n
}

// fewest is what Fewest returns, or more than there can be if no list mends all.
func fewest(w api.Workshop) int {
	n, e := parts.Fewest(w)
	if e != api.OK {
		return api.MaxSpares + 1
	}
	return n
}

// hasTruth tells whether there is a truth, also if no list mends all.
func hasTruth(w api.Workshop) bool {
	_, e := parts.Most(w, make([]int, len(w.Spares)), nil)
	return e == api.OK
}

// drawn are workshops of all sizes, with a truth.
func drawn(seed uint64, many int) []api.Workshop {
	x := newRandom(seed)
	list := []api.Workshop{workshopV(), workshopW()}
	for _, k := range kepts() {
		if len(all(k.w)) > 0 && len(k.w.Spares) > 0 {
			list = append(list, k.w)
		}
	}
	for range many {
		for _, z := range []size{sizes()["small"], sizes()["several kinds"], sizes()["many trials"], sizes()["nearly as long"], sizes()["many spares"], large()["large"], large()["large and known"]} {
			if w := x.workshop(z); hasTruth(w) {
				list = append(list, w)
			}
		}
	}
	return list
}

// list draws a list of spares.
func (x random) list(spares int) []int {
	var list []int
	for spare := range spares {
		if x.IntN(2) == 0 {
			list = append(list, spare)
		}
	}
	return list
}

// denies tells whether what is known of all truths is not so in some of them.
func denies(known, some int) bool { return known != perhaps && known != some }

// isWithin tells whether a span is not wider than another one.
func isWithin(s, other api.Span) bool { return other.Low <= s.Low && s.High <= other.High }

// exact is a workshop with these lengths of spares.
func exact(w api.Workshop, lengths []int) api.Workshop {
	w = copied(w)
	for spare, n := range lengths {
		w.Spares[spare].Length = span(n, n)
	}
	return w
}

// truthOf draws a truth of a workshop; none if none was found.
func (x random) truthOf(w api.Workshop) []int {
	m := model{w: w}
	var truth []int
	for spare, s := range w.Spares {
		alone := m
		alone.w.Table = slices.DeleteFunc(slices.Clone(w.Table), func(t api.Trial) bool { return t.Spare != spare })
		found := false
		for range 200 {
			lengths := make([]int, len(w.Spares))
			lengths[spare] = x.from(s.Length.Low, s.Length.High)
			if alone.agrees(lengths) {
				truth, found = append(truth, lengths[spare]), true
				break
			}
		}
		if !found {
			return nil
		}
	}
	return truth
}

func TestP7_11EachTruth(t *testing.T) {
	x := newRandom(11)
	held := 0
	for _, w := range drawn(11, 100) {
		for range 4 {
			truth := x.truthOf(w)
			if truth == nil {
				continue
			}
			held++
			m := newModel(exact(w, truth))
			if len(m.truths) != 1 {
				t.Errorf("%+v: %v is no truth", w, truth)
				continue
			}
			x.holdsTruth(t, w, m)
		}
	}
	if held < 500 {
		t.Errorf("%d truths", held)
	}
}

// holdsTruth holds what is known of a workshop against one of its truths.
func (x random) holdsTruth(t *testing.T, w api.Workshop, one model) {
	t.Helper()
	for spare, n := range one.truths[0] {
		if s := length(w, spare); n < s.Low || n > s.High {
			t.Errorf("%+v: Length of %d = %v, but there is %d", w, spare, s, n)
		}
		for _, j := range all(w) {
			is := one.knownFits(spare, j.Make, j.Slot)
			if denies(fits(w, spare, j.Make, j.Slot), is) {
				t.Errorf("%+v: Fits of %d and %v = %d, but there is %d", w, spare, j, fits(w, spare, j.Make, j.Slot), is)
			}
		}
	}
	for maker := range w.Makes {
		list := x.list(len(w.Spares))
		is := one.knownMends(list, maker)
		if denies(mends(w, list, maker), is) {
			t.Errorf("%+v: Mends of %v and %d = %d, but there is %d", w, list, maker, mends(w, list, maker), is)
		}
	}
	if l, e := parts.Keep(w); e == api.OK && !one.mendsAll(l) {
		t.Errorf("%+v: Keep = %v", w, l)
	}
}

func TestP7_11Ends(t *testing.T) {
	for _, w := range drawn(12, 60) {
		for spare := range w.Spares {
			s := length(w, spare)
			for _, end := range []int{s.Low, s.High} {
				one := copied(w)
				one.Spares[spare].Length = span(end, end)
				if l, e := parts.Length(one, spare); l != span(end, end) || e != api.OK {
					t.Errorf("%+v: Length of %d = %v, but with %d alone %v, error %d", w, spare, s, end, l, e)
				}
			}
			for _, n := range []int{s.Low - 1, s.High + 1} {
				one := copied(w)
				one.Spares[spare].Length = span(n, n)
				if l := w.Spares[spare].Length; n >= l.Low && n <= l.High && hasTruth(one) {
					t.Errorf("%+v: Length of %d = %v, but %d is in a truth", w, spare, s, n)
				}
			}
		}
	}
}

// withTrial draws a workshop with one trial more, somewhere in the table; not ok if there is none, or no truth.
func (x random) withTrial(w api.Workshop) (api.Workshop, bool) {
	if len(w.Table) == api.MaxTrials {
		return w, false
	}
	more := copied(w)
	more.Table = slices.Insert(more.Table, x.IntN(len(w.Table)+1), x.trial(w))
	return more, parts.Check(more) == api.OK && hasTruth(more)
}

func TestP7_12NewTrial(t *testing.T) {
	x := newRandom(13)
	met := map[string]int{}
	for _, w := range drawn(13, 400) {
		more, ok := x.withTrial(w)
		if !ok {
			continue
		}
		for spare := range w.Spares {
			if !isWithin(length(more, spare), length(w, spare)) {
				t.Errorf("%+v: Length of %d = %v; %v: %v", w, spare, length(w, spare), more.Table, length(more, spare))
			}
			if length(more, spare) != length(w, spare) {
				met["narrower"]++
			}
			for _, j := range all(w) {
				was, is := fits(w, spare, j.Make, j.Slot), fits(more, spare, j.Make, j.Slot)
				if denies(was, is) {
					t.Errorf("%+v: Fits of %d and %v = %d; %v: %d", w, spare, j, was, more.Table, is)
				}
				if was != is {
					met["fits"]++
				}
			}
		}
		for maker := range w.Makes {
			list := x.list(len(w.Spares))
			was, is := mends(w, list, maker), mends(more, list, maker)
			if denies(was, is) {
				t.Errorf("%+v: Mends of %v and %d = %d; %v: %d", w, list, maker, was, more.Table, is)
			}
			if was != is {
				met["mends"]++
			}
		}
		if fewest(more) > fewest(w) {
			t.Errorf("%+v: Fewest = %d; %v: %d", w, fewest(w), more.Table, fewest(more))
		}
		if fewest(more) < fewest(w) {
			met["fewer"]++
		}
	}
	for _, name := range []string{"narrower", "fits", "mends", "fewer"} {
		if met[name] < 10 {
			t.Errorf("%s: %d", name, met[name])
		}
	}
}

// mendsAll tells whether a list mends each make surely.
func mendsAll(w api.Workshop, list []int) bool {
	for maker := range w.Makes {
		if mends(w, list, maker) != surely {
			return false
		}
	}
	return true
}

func TestP7_13NoFewer(t *testing.T) {
	for _, w := range drawn(14, 40) {
		least := fewest(w)
		var kept []int
		for _, l := range allLists(len(w.Spares)) {
			if len(l) > least || !mendsAll(w, l) {
				continue
			}
			if len(l) < least {
				t.Errorf("%+v: Fewest = %d, but %v mends all", w, least, l)
			}
			if kept == nil {
				kept = l
			}
			kept = slices.DeleteFunc(slices.Clone(kept), func(spare int) bool { return !slices.Contains(l, spare) })
		}
		if !slices.Equal(kept, needed(w)) {
			t.Errorf("%+v: Needed = %v; want %v", w, needed(w), kept)
		}
		if l, e := parts.Keep(w); e == api.OK && (len(l) != least || !mendsAll(w, l)) {
			t.Errorf("%+v: Keep = %v", w, l)
		}
	}
}

// withSpare is a workshop with one spare more, which has this number.
func withSpare(w api.Workshop, number int, s api.Spare) api.Workshop {
	w = copied(w)
	w.Spares = slices.Insert(w.Spares, number, s)
	for i := range w.Table {
		if w.Table[i].Spare >= number {
			w.Table[i].Spare++
		}
	}
	return w
}

// withoutSpare is a workshop without a spare, and without its trials.
func withoutSpare(w api.Workshop, number int) api.Workshop {
	w = copied(w)
	w.Spares = slices.Delete(w.Spares, number, number+1)
	w.Table = slices.DeleteFunc(w.Table, func(t api.Trial) bool { return t.Spare == number })
	for i := range w.Table {
		if w.Table[i].Spare > number {
			w.Table[i].Spare--
		}
	}
	return w
}

// withoutMake is a workshop without a make; not ok if it has a trial, without which less may be known.
func withoutMake(w api.Workshop, number int) (api.Workshop, bool) {
	w = copied(w)
	w.Makes = slices.Delete(w.Makes, number, number+1)
	for i := range w.Table {
		if w.Table[i].Make == number {
			return w, false
		}
		if w.Table[i].Make > number {
			w.Table[i].Make--
		}
	}
	return w, true
}

// spareFor draws a spare that fits a slot, or nearly so.
func (x random) spareFor(w api.Workshop) api.Spare {
	jobs := all(w)
	j := jobs[x.IntN(len(jobs))]
	place := w.Makes[j.Make].Slots[j.Slot]
	section := 0
	if len(place.Sections) > 0 {
		section = place.Sections[x.IntN(len(place.Sections))]
	}
	low := max(0, x.from(place.Length.Low-1, place.Length.High+w.Cut))
	return spare(place.Kind, section, low, low+x.IntN(3))
}

func TestP7_13OneSpareMore(t *testing.T) {
	x := newRandom(15)
	fewer := 0
	for _, w := range drawn(15, 200) {
		if len(w.Spares) == api.MaxSpares {
			continue
		}
		s := x.spareFor(w)
		more := withSpare(w, x.IntN(len(w.Spares)+1), s)
		if fewest(more) > fewest(w) {
			t.Errorf("%+v: Fewest = %d; with %v: %d", w, fewest(w), s, fewest(more))
		}
		if fewest(more) < fewest(w) {
			fewer++
		}
	}
	if fewer < 10 {
		t.Errorf("fewer: %d", fewer)
	}
}

func TestP7_13OneMakeLess(t *testing.T) {
	met := map[bool]int{}
	for _, w := range drawn(16, 60) {
		for number := range w.Makes {
			less, ok := withoutMake(w, number)
			if !ok {
				continue
			}
			if fewest(less) > fewest(w) {
				t.Errorf("%+v: Fewest = %d; without %d: %d", w, fewest(w), number, fewest(less))
			}
			met[fewest(less) < fewest(w)]++
		}
	}
	if met[true] < 50 || met[false] < 50 {
		t.Errorf("%v", met)
	}
}

func TestP7_13NotNeeded(t *testing.T) {
	met := map[string]int{}
	for _, w := range drawn(17, 60) {
		if fewest(w) > api.MaxSpares {
			continue
		}
		for number := range w.Spares {
			less := withoutSpare(w, number)
			is := slices.Contains(needed(w), number)
			if is != (fewest(less) > fewest(w)) {
				t.Errorf("%+v: Needed = %v, Fewest = %d; without %d: %d", w, needed(w), fewest(w), number, fewest(less))
			}
			if l, _ := parts.Keep(w); !is && slices.Contains(l, number) {
				met["kept, but not needed"]++
			}
			if is {
				met["needed"]++
			}
		}
	}
	if met["needed"] < 50 || met["kept, but not needed"] < 50 {
		t.Errorf("%v", met)
	}
}

// workOf draws work of each workshop.
func (x random) workOf(list []api.Workshop, most int) []worked {
	var work []worked
	for _, w := range list {
		y := worked{w: w, stock: x.stock(w, x.from(1, 3)), jobs: x.jobs(w, most)}
		y.want, _ = parts.Most(w, y.stock, y.jobs)
		work = append(work, y)
	}
	return work
}

func TestP7_14Proof(t *testing.T) {
	x := newRandom(18)
	for _, y := range x.workOf(drawn(18, 100), 6) {
		short, e := parts.Short(y.w, y.stock, y.jobs)
		if !isShort(y, short) || e != api.OK {
			t.Errorf("%+v: Short = %v, error %d", y, short, e)
		}
		for _, some := range allLists(len(y.jobs)) {
			if n := lack(y, some); n > len(y.jobs)-y.want {
				t.Errorf("%+v: Most = %d, but %v lack %d", y, y.want, some, n)
			}
		}
	}
}

func TestP7_15Stock(t *testing.T) {
	x := newRandom(19)
	met := map[string]int{}
	for _, y := range x.workOf(drawn(19, 200), api.MaxJobs-1) {
		spare := x.IntN(len(y.stock))
		stock := slices.Clone(y.stock)
		stock[spare]++
		n := most(y.w, stock, y.jobs)
		if n != y.want && n != y.want+1 {
			t.Errorf("%+v: Most = %d with one more of %d", y, n, spare)
		}
		slots := all(y.w)
		longer := append(slices.Clone(y.jobs), slots[x.IntN(len(slots))])
		m := most(y.w, y.stock, longer)
		if m != y.want && m != y.want+1 {
			t.Errorf("%+v: Most = %d with %v", y, m, longer)
		}
		for name, is := range map[string]bool{"another spare does more": n > y.want, "it does not": n == y.want, "another job is done": m > y.want, "it is not": m == y.want} {
			if is {
				met[name]++
			}
		}
	}
	for _, name := range []string{"another spare does more", "it does not", "another job is done", "it is not"} {
		if met[name] < 30 {
			t.Errorf("%s: %d", name, met[name])
		}
	}
}

func TestP7_15AnyOrder(t *testing.T) {
	x := newRandom(20)
	for _, y := range x.workOf(drawn(20, 100), api.MaxJobs) {
		w := copied(y.w)
		x.Shuffle(len(w.Table), func(i, k int) { w.Table[i], w.Table[k] = w.Table[k], w.Table[i] })
		z := worked{w, y.stock, slices.Clone(y.jobs), y.want}
		x.Shuffle(len(z.jobs), func(i, k int) { z.jobs[i], z.jobs[k] = z.jobs[k], z.jobs[i] })
		if n := most(w, z.stock, z.jobs); n != y.want {
			t.Errorf("%+v: Most = %d in another order: %v, %v", y, n, w.Table, z.jobs)
		}
		holdsProof(t, z)
		for spare := range w.Spares {
			if length(w, spare) != length(y.w, spare) {
				t.Errorf("%+v: Length of %d = %v; %v: %v", y.w, spare, length(y.w, spare), w.Table, length(w, spare))
			}
			for _, j := range all(w) {
				if was, is := fits(y.w, spare, j.Make, j.Slot), fits(w, spare, j.Make, j.Slot); was != is {
					t.Errorf("%+v: Fits of %d and %v = %d; %v: %d", y.w, spare, j, was, w.Table, is)
				}
			}
		}
		for maker := range w.Makes {
			list := x.list(len(w.Spares))
			if was, is := mends(y.w, list, maker), mends(w, list, maker); was != is {
				t.Errorf("%+v: Mends of %v and %d = %d; %v: %d", y.w, list, maker, was, w.Table, is)
			}
		}
		if fewest(w) != fewest(y.w) || !slices.Equal(needed(w), needed(y.w)) {
			t.Errorf("%+v: Fewest = %d, Needed = %v; %v: %d, %v", y.w, fewest(y.w), needed(y.w), w.Table, fewest(w), needed(w))
		}
	}
}

// ribs is a frame that folds once more with each spare: its arms are what is known of the spares.
func (x random) ribs(w api.Workshop) api.Frame {
	low := x.from(1, 20)
	f := api.Frame{Low: low, High: low + x.IntN(20), Ease: api.Frac{Num: 1, Den: 20}, Rod: 20, Case: x.from(20, 60)}
	for spare := range w.Spares {
		stretch := x.from(1, 40)
		f.Sections = append(f.Sections, api.Section{
			Arm: length(w, spare), Stretch: span(stretch, stretch+x.IntN(api.MaxPlay+1)),
			Base: x.IntN(10), Gear: api.Frac{Num: 1, Den: x.from(1, 3)},
		})
	}
	return f
}

// refitted is a frame with the arms of another workshop.
func refitted(f api.Frame, w api.Workshop) api.Frame {
	f.Sections = slices.Clone(f.Sections)
	for spare := range w.Spares {
		f.Sections[spare].Arm = length(w, spare)
	}
	return f
}

func ratio(f api.Frac) *big.Rat { return big.NewRat(int64(f.Num), int64(f.Den)) }

// asksFrame are what is known of a frame, as far as it can be known surely.
func asksFrame(f api.Frame) []int {
	opens, _ := frames.Opens(f)
	closes, _ := frames.Closes(f)
	known := []int{opens, closes}
	for section := range f.Sections {
		turns, _ := frames.Turns(f, section)
		known = append(known, turns)
		for r := f.Low; r <= f.High; r++ {
			binds, _ := frames.Binds(f, section, r)
			known = append(known, binds)
		}
	}
	return known
}

func TestP0_2TheRibFromTheStock(t *testing.T) {
	x := newRandom(21)
	met := map[string]int{}
	z := size{spares: api.MaxFolds, makes: 2, kinds: 1, sections: 1, spread: api.MaxPlay, apart: 30, trials: 2}
	for range 3000 {
		w := x.workshop(z)
		more, ok := x.withTrial(w)
		if !ok || !hasTruth(w) {
			continue
		}
		f := x.ribs(w)
		if frames.Check(f) != api.OK { // an arm of 0 is none
			continue
		}
		g := refitted(f, more)
		for section := range f.Sections {
			for r := f.Low; r <= f.High; r++ {
				low, high, e := frames.Cosine(f, section, r)
				l, h, d := frames.Cosine(g, section, r)
				if e != d || e == api.OK && (ratio(l).Cmp(ratio(low)) < 0 || ratio(h).Cmp(ratio(high)) > 0) {
					t.Errorf("%+v: Cosine of %d at %d = %v, %v, error %d; %+v: %v, %v, error %d", f, section, r, low, high, e, g, l, h, d)
				}
				if l != low || h != high {
					met["narrower"]++
				}
			}
		}
		was, is := asksFrame(f), asksFrame(g)
		for i := range was {
			if denies(was[i], is[i]) {
				t.Errorf("%+v: %v; %+v: %v", f, was, g, is)
			}
			if was[i] != is[i] {
				met["known"]++
			}
		}
	}
	if met["narrower"] < 100 || met["known"] < 100 {
		t.Errorf("%v", met)
	}
}
