package parts_test

import (
	"math/rand/v2"
	"slices"
	"testing"

	"ferrule/api"
	"ferrule/parts"
)

// model is a workshop as the chapter defines it, with all of its truths: the lengths of all spares.
type model struct {
	w      api.Workshop
	truths [][]int
}

func newModel(w api.Workshop) model {
	m := model{w: w}
	truths := [][]int{nil}
	for _, s := range w.Spares {
		var longer [][]int
		for _, x := range truths {
			for n := s.Length.Low; n <= s.Length.High; n++ {
				longer = append(longer, append(slices.Clone(x), n))
			}
		}
		truths = longer
	}
	for _, x := range truths {
		if m.agrees(x) {
			m.truths = append(m.truths, x)
		}
	}
	return m
}

// agrees tells whether lengths are so that each trial is so.
func (m model) agrees(x []int) bool {
	for _, t := range m.w.Table {
		if m.fits(x, t.Spare, t.Make, t.Slot) != (t.Fits == 1) {
			return false
		}
	}
	return true
}

func (m model) fits(x []int, spare, maker, slot int) bool {
	s, place := m.w.Spares[spare], m.w.Makes[maker].Slots[slot]
	has := false
	for _, section := range place.Sections {
		has = has || section == s.Section
	}
	return has && s.Kind == place.Kind && x[spare] >= place.Length.Low && x[spare] <= place.Length.High+m.w.Cut
}

// known tells whether something is so in each truth, in none, or in some.
func (m model) known(is func(x []int) bool) int {
	many := 0
	for _, x := range m.truths {
		if is(x) {
			many++
		}
	}
	switch many {
	case 0:
		return never
	case len(m.truths):
		return surely
	}
	return perhaps
}

func (m model) knownFits(spare, maker, slot int) int {
	return m.known(func(x []int) bool { return m.fits(x, spare, maker, slot) })
}

func (m model) knownMends(list []int, maker int) int {
	return m.known(func(x []int) bool { return m.mends(x, list, maker) })
}

func (m model) mends(x []int, list []int, maker int) bool {
	for slot := range m.w.Makes[maker].Slots {
		if !slices.ContainsFunc(list, func(spare int) bool { return m.fits(x, spare, maker, slot) }) {
			return false
		}
	}
	return true
}

func (m model) mendsAll(list []int) bool {
	for _, x := range m.truths {
		for maker := range m.w.Makes {
			if !m.mends(x, list, maker) {
				return false
			}
		}
	}
	return true
}

// allLists are all lists of so many spares.
func allLists(spares int) [][]int {
	all := [][]int{nil}
	for spare := range spares {
		for _, l := range all {
			all = append(all, append(slices.Clone(l), spare))
		}
	}
	return all
}

// fewest are all lists that mend all and have the fewest spares.
func (m model) fewest() [][]int {
	for many := range len(m.w.Spares) + 1 {
		var lists [][]int
		for _, l := range allLists(len(m.w.Spares)) {
			if len(l) == many && m.mendsAll(l) {
				lists = append(lists, l)
			}
		}
		if len(lists) > 0 {
			return lists
		}
	}
	return nil
}

// most is how many jobs can be done, by all ways to do them.
func (m model) most(stock []int, jobs []api.Job) int {
	if len(jobs) == 0 {
		return 0
	}
	most := m.most(stock, jobs[1:])
	for s, many := range stock {
		if many > 0 && m.knownFits(s, jobs[0].Make, jobs[0].Slot) == surely {
			left := slices.Clone(stock)
			left[s]--
			most = max(most, 1+m.most(left, jobs[1:]))
		}
	}
	return most
}

// compare holds all that is said of a workshop against the model.
func compare(t *testing.T, w api.Workshop) {
	t.Helper()
	m := newModel(w)
	if len(m.truths) == 0 {
		wantErrors(t, "no truth", allOf(w, first(w)), api.ErrNone)
	} else {
		m.compareSpares(t)
		m.compareLists(t)
		m.compareFewest(t)
	}
	if t.Failed() {
		t.Errorf("%+v", w)
	}
}

func (m model) compareSpares(t *testing.T) {
	t.Helper()
	for spare := range m.w.Spares {
		want := span(m.truths[0][spare], m.truths[0][spare])
		for _, x := range m.truths {
			want = span(min(want.Low, x[spare]), max(want.High, x[spare]))
		}
		if s, e := parts.Length(m.w, spare); s != want || e != api.OK {
			t.Errorf("Length of %d = %v, error %d; want %v", spare, s, e, want)
		}
		for _, j := range all(m.w) {
			want := m.knownFits(spare, j.Make, j.Slot)
			if n, e := parts.Fits(m.w, spare, j.Make, j.Slot); n != want || e != api.OK {
				t.Errorf("Fits of %d and %v = %d, error %d; want %d", spare, j, n, e, want)
			}
		}
	}
}

func (m model) compareLists(t *testing.T) {
	t.Helper()
	for _, l := range allLists(len(m.w.Spares)) {
		for maker := range m.w.Makes {
			want := m.knownMends(l, maker)
			if n, e := parts.Mends(m.w, l, maker); n != want || e != api.OK {
				t.Errorf("Mends of %v and %d = %d, error %d; want %d", l, maker, n, e, want)
			}
		}
	}
}

func (m model) compareFewest(t *testing.T) {
	t.Helper()
	lists := m.fewest()
	if lists == nil {
		wantErrors(t, "no list", ofAll(m.w, asked{}), api.ErrNone)
		return
	}
	if n, e := parts.Fewest(m.w); n != len(lists[0]) || e != api.OK {
		t.Errorf("Fewest = %d, error %d; want %d", n, e, len(lists[0]))
	}
	l, e := parts.Keep(m.w)
	if e != api.OK || !slices.ContainsFunc(lists, func(o []int) bool { return slices.Equal(o, l) }) {
		t.Errorf("Keep = %v, error %d; want one of %v", l, e, lists)
	}
	needed := slices.Clone(lists[0])
	for _, o := range lists {
		needed = slices.DeleteFunc(needed, func(spare int) bool { return !slices.Contains(o, spare) })
	}
	if l, e := parts.Needed(m.w); !slices.Equal(l, needed) || e != api.OK {
		t.Errorf("Needed = %v, error %d; want %v", l, e, needed)
	}
}

// compareWork holds work against the model; of a workshop with a truth.
func compareWork(t *testing.T, w api.Workshop, stock []int, jobs []api.Job) {
	t.Helper()
	x := worked{w, stock, jobs, newModel(w).most(stock, jobs)}
	if n, e := parts.Most(w, stock, jobs); n != x.want || e != api.OK {
		t.Errorf("Most = %d, error %d; want %d", n, e, x.want)
	}
	holdsProof(t, x)
}

// holdsProof holds that work is some, and that it cannot be more than this.
func holdsProof(t *testing.T, x worked) {
	t.Helper()
	given, e := parts.Work(x.w, x.stock, x.jobs)
	if !isWork(x, given) || e != api.OK {
		t.Errorf("Work = %v, error %d; want %d", given, e, x.want)
	}
	short, e := parts.Short(x.w, x.stock, x.jobs)
	if !isShort(x, short) || e != api.OK {
		t.Errorf("Short = %v, error %d; want %d", short, e, len(x.jobs)-x.want)
	}
	if t.Failed() {
		t.Errorf("%+v, %v, %v", x.w, x.stock, x.jobs)
	}
}

// random draws workshops, always the same ones.
type random struct{ *rand.Rand }

func newRandom(seed uint64) random { return random{rand.New(rand.NewPCG(seed, 7))} }

func (x random) from(low, high int) int { return low + x.IntN(high-low+1) }

// size is how many workshops are drawn, and how large they are at most: spares,
// makes, kinds, sections, how much of a length is not known, how far lengths are
// apart, and trials.
type size struct{ many, spares, makes, kinds, sections, spread, apart, trials int }

func (x random) spare(z size) api.Spare {
	low := x.IntN(z.apart + 1)
	return spare(x.IntN(z.kinds), x.IntN(z.sections), low, low+x.IntN(z.spread+1))
}

func (x random) slot(z size) api.Slot {
	low := x.IntN(z.apart + 1)
	s := slot(x.IntN(z.kinds), low, low+x.IntN(z.spread+2))
	for section := range z.sections {
		if len(s.Sections) < api.MaxSections && x.IntN(3) > 0 {
			s.Sections = append(s.Sections, section)
		}
	}
	return s
}

// slotFor draws a slot that one of the spares fits, or nearly so.
func (x random) slotFor(z size, w api.Workshop) api.Slot {
	s := x.slot(z)
	p := w.Spares[x.IntN(len(w.Spares))]
	s.Kind = p.Kind
	if !slices.Contains(s.Sections, p.Section) {
		s.Sections = []int{p.Section}
	}
	s.Length.Low = min(max(0, p.Length.Low+x.from(-2, 1)), p.Length.High)
	s.Length.High = max(s.Length.Low, p.Length.High-w.Cut+x.from(-1, 2))
	return s
}

func (x random) workshop(z size) api.Workshop {
	w := api.Workshop{Cut: x.IntN(3)}
	for range x.from(1, z.spares) {
		w.Spares = append(w.Spares, x.spare(z))
	}
	for range x.from(1, z.makes) {
		var m api.Make
		for range x.IntN(api.MaxSlots + 1) {
			if x.IntN(3) == 0 {
				m.Slots = append(m.Slots, x.slot(z))
			} else {
				m.Slots = append(m.Slots, x.slotFor(z, w))
			}
		}
		w.Makes = append(w.Makes, m)
	}
	if len(all(w)) == 0 {
		w.Makes[0].Slots = []api.Slot{x.slot(z)}
	}
	for range x.IntN(z.trials + 1) {
		w = x.tried(w)
	}
	return w
}

// truth draws lengths of all spares, without regard to trials.
func (x random) truth(w api.Workshop) []int {
	var truth []int
	for _, s := range w.Spares {
		truth = append(truth, x.from(s.Length.Low, s.Length.High))
	}
	return truth
}

// trial draws one of a spare that may fit, most of them such that there is a truth.
func (x random) trial(w api.Workshop) api.Trial {
	jobs := all(w)
	t := trial(x.IntN(len(w.Spares)), 0, 0, x.IntN(2))
	for range 4 {
		j := jobs[x.IntN(len(jobs))]
		t.Make, t.Slot = j.Make, j.Slot
		if n, _ := parts.Fits(w, t.Spare, t.Make, t.Slot); n == perhaps {
			break
		}
	}
	if n, _ := parts.Fits(w, t.Spare, t.Make, t.Slot); n == never || n == surely {
		t.Fits = 2 - n
		if x.IntN(60) == 0 {
			t.Fits = 1 - t.Fits
		}
	}
	return t
}

// tried draws a trial more that does not clash, if there can be one more.
func (x random) tried(w api.Workshop) api.Workshop {
	if len(w.Table) == api.MaxTrials {
		return w
	}
	more := w
	more.Table = append(slices.Clone(w.Table), x.trial(w))
	if parts.Check(more) != api.OK {
		return w
	}
	return more
}

func (x random) stock(w api.Workshop, most int) []int {
	var stock []int
	for range w.Spares {
		stock = append(stock, x.IntN(most+1))
	}
	return stock
}

func (x random) jobs(w api.Workshop, most int) []api.Job {
	var jobs []api.Job
	slots := all(w)
	for range x.IntN(most + 1) {
		jobs = append(jobs, slots[x.IntN(len(slots))])
	}
	return jobs
}

func sizes() map[string]size {
	return map[string]size{
		"small":          {4000, 3, 2, 1, 2, 4, 6, 4},
		"several kinds":  {2000, 4, 3, 2, 3, 3, 4, 4},
		"wide":           {800, 2, 2, 1, 1, 30, 20, 6},
		"many trials":    {1500, 3, 4, 1, 1, 8, 8, 12},
		"many spares":    {300, 7, 3, 1, 2, 1, 2, 4},
		"known lengths":  {300, 8, 5, 2, 4, 0, 2, 3},
		"nearly as long": {2000, 4, 2, 1, 1, 3, 1, 3},
	}
}

func TestModel(t *testing.T) {
	for name, z := range sizes() {
		t.Run(name, func(t *testing.T) {
			x := newRandom(1)
			for range z.many {
				compare(t, x.workshop(z))
				if t.Failed() {
					return
				}
			}
		})
	}
}

func TestModelOfWork(t *testing.T) {
	for name, z := range sizes() {
		t.Run(name, func(t *testing.T) {
			x := newRandom(2)
			for range z.many {
				w := x.workshop(z)
				if len(newModel(w).truths) == 0 {
					continue
				}
				compareWork(t, w, x.stock(w, 2), x.jobs(w, 5))
				if t.Failed() {
					return
				}
			}
		})
	}
}

// large are workshops with as many of all as there can be.
func large() map[string]size {
	return map[string]size{
		"large":           {300, api.MaxSpares, api.MaxMakes, 1, 3, 99, 300, api.MaxTrials},
		"large and wide":  {300, api.MaxSpares, api.MaxMakes, 1, 2, 398, 600, api.MaxTrials},
		"large and known": {600, api.MaxSpares, api.MaxMakes, 1, 4, 1, 9, 9},
		"many kinds":      {600, api.MaxSpares, api.MaxMakes, 4, 5, 2, 3, 9},
	}
}

// Work of any size is as much as can be: its jobs are done, and Short shows why there are no more.
func TestModelOfProofs(t *testing.T) {
	for name, z := range large() {
		t.Run(name, func(t *testing.T) {
			x := newRandom(3)
			for range z.many {
				w := x.workshop(z)
				stock, jobs := x.stock(w, x.from(1, 3)), x.jobs(w, api.MaxJobs)
				most, e := parts.Most(w, stock, jobs)
				if e == api.ErrNone {
					continue
				}
				holdsProof(t, worked{w, stock, jobs, most})
				if t.Failed() {
					return
				}
			}
		})
	}
}

// ways is in how many ways all spares can have lengths, if there were no trials.
func ways(w api.Workshop) int {
	many := 1
	for _, s := range w.Spares {
		many *= s.Length.High - s.Length.Low + 1
	}
	return many
}

// What the tests say of single workshops is so.
func TestModelOfKnowns(t *testing.T) {
	var known []api.Workshop
	for _, x := range mendeds() {
		known = append(known, x.w)
	}
	for _, x := range kepts() {
		known = append(known, x.w)
	}
	for _, w := range slices.Concat(known, unmended()) {
		if ways(w) < 20000 {
			compare(t, w)
		}
	}
	for _, x := range measureds() {
		compare(t, x.w)
	}
	for _, x := range fitteds() {
		compare(t, x.w)
	}
	for _, w := range untrue() {
		compare(t, w)
	}
	for _, x := range workeds() {
		if len(x.jobs) < 6 && ways(x.w) < 20000 {
			compareWork(t, x.w, x.stock, x.jobs)
		}
	}
}

// The workshops that are drawn have all that can be known in them.
func TestModelMeetsAll(t *testing.T) {
	met := map[string]int{}
	for _, z := range sizes() {
		x := newRandom(1)
		for range min(z.many, 1500) {
			meet(met, newModel(x.workshop(z)))
		}
		x = newRandom(2)
		for range min(z.many, 1500) {
			w := x.workshop(z)
			meetWork(met, w, x.stock(w, 2), x.jobs(w, 5))
		}
	}
	for _, name := range []string{
		"no truth", "surely fits", "never fits", "perhaps fits", "surely mends", "never mends", "perhaps mends", "never, though each slot is fitted perhaps",
		"a gap", "fits both sides of a gap", "no list", "several lists", "one list", "none needed", "some needed",
		"all done", "some done", "none done", "some are short", "more than in order",
	} {
		if met[name] < 20 {
			t.Errorf("%s: %d", name, met[name])
		}
	}
}

func meet(met map[string]int, m model) {
	if len(m.truths) == 0 {
		met["no truth"]++
		return
	}
	words := map[int]string{surely: "surely", never: "never", perhaps: "perhaps"}
	for spare := range m.w.Spares {
		for _, j := range all(m.w) {
			met[words[m.knownFits(spare, j.Make, j.Slot)]+" fits"]++
		}
		m.meetGaps(met, spare)
	}
	for _, l := range allLists(len(m.w.Spares)) {
		for maker, k := range m.w.Makes {
			known := m.knownMends(l, maker)
			met[words[known]+" mends"]++
			if len(l) == 0 || len(k.Slots) == 0 {
				continue
			}
			fitted := true
			for slot := range k.Slots {
				fitted = fitted && slices.ContainsFunc(l, func(spare int) bool { return m.knownFits(spare, maker, slot) != never })
			}
			if fitted && known == never {
				met["never, though each slot is fitted perhaps"]++
			}
		}
	}
	lists := m.fewest()
	needed, _ := parts.Needed(m.w)
	for name, is := range map[string]bool{
		"no list": len(lists) == 0, "one list": len(lists) == 1, "several lists": len(lists) > 1,
		"none needed": len(lists) > 1 && len(needed) == 0, "some needed": len(needed) > 0 && len(needed) < len(m.w.Spares),
	} {
		if is {
			met[name]++
		}
	}
}

// meetGaps meets spares that have lengths with a gap in between, and slots that these fit.
func (m model) meetGaps(met map[string]int, spare int) {
	lengths := map[int]bool{}
	for _, x := range m.truths {
		lengths[x[spare]] = true
	}
	s, _ := parts.Length(m.w, spare)
	if len(lengths) == s.High-s.Low+1 {
		return
	}
	met["a gap"]++
	for _, j := range all(m.w) {
		if m.knownFits(spare, j.Make, j.Slot) == surely {
			met["fits both sides of a gap"]++
		}
	}
}

func meetWork(met map[string]int, w api.Workshop, stock []int, jobs []api.Job) {
	most, e := parts.Most(w, stock, jobs)
	if e != api.OK || len(jobs) == 0 {
		return
	}
	short, _ := parts.Short(w, stock, jobs)
	greedy, left := 0, slices.Clone(stock)
	for _, j := range jobs {
		for s := range left {
			if n, _ := parts.Fits(w, s, j.Make, j.Slot); n == surely && left[s] > 0 {
				left[s]--
				greedy++
				break
			}
		}
	}
	for name, is := range map[string]bool{
		"all done": most == len(jobs), "none done": most == 0, "some done": most > 0 && most < len(jobs),
		"some are short": len(short) > len(jobs)-most && len(short) < len(jobs), "more than in order": most > greedy,
	} {
		if is {
			met[name]++
		}
	}
}
