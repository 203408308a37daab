package seams_test

import (
	"math/rand/v2"
	"slices"
	"testing"

	"ferrule/api"
	"ferrule/seams"
)

// model is a figure as the chapter defines it, with all truths of its dome:
// for each of them the numbers of all bolts.
type model struct {
	f      api.Figure
	truths [][]int
}

func newModel(f api.Figure) model {
	m := model{f, [][]int{nil}}
	for _, b := range f.Dome.Bolts {
		var truths [][]int
		for _, t := range m.truths {
			for s := b.Stretch.Low; s <= b.Stretch.High; s++ {
				if untrue(b, s) <= b.Wrong {
					truths = append(truths, append(slices.Clone(t), s))
				}
			}
		}
		m.truths = truths
	}
	return m
}

func pulled(length, stretch int) int { return length * (1000 + stretch) / 1000 }

// untrue is how many strips of a bolt are not true of a number.
func untrue(b api.Bolt, stretch int) int {
	many := 0
	for _, s := range b.Strips {
		if p := pulled(s.Long, stretch); p < s.Pulled.Low || p > s.Pulled.High {
			many++
		}
	}
	return many
}

// modulo is also right for numbers below 0.
func modulo(a, b int) int { return ((a % b) + b) % b }

// meetsIn tells whether a seam whose gores have these starts meets in a truth.
func (m model) meetsIn(truth []int, seam, start, next, near int) bool {
	end := modulo(start+pulled(m.f.Run, truth[m.f.Dome.Gores[seam]]), m.f.Period)
	return min(modulo(end-next, m.f.Period), modulo(next-end, m.f.Period)) <= near
}

func (m model) meets(seam int) int {
	many := 0
	for _, t := range m.truths {
		if m.meetsIn(t, seam, m.f.Starts[seam], m.f.Starts[(seam+1)%len(m.f.Starts)], m.f.Near) {
			many++
		}
	}
	switch many {
	case 0:
		return api.Never
	case len(m.truths):
		return api.Surely
	}
	return api.Perhaps
}

func (m model) bad() []int {
	var all []int
	for seam := range m.f.Times {
		if m.meets(seam) != api.Surely {
			all = append(all, seam)
		}
	}
	return all
}

// surely tells for two starts whether a seam surely meets with them.
func (m model) surely(seam, near int) func(start, next int) bool {
	// whether it does depends only on how far one start is from the other
	var known [api.MaxPeriod]bool
	for step := range m.f.Period {
		known[step] = !slices.ContainsFunc(m.truths, func(t []int) bool { return !m.meetsIn(t, seam, 0, step, near) })
	}
	return func(start, next int) bool { return known[modulo(next-start, m.f.Period)] }
}

const far = 1 << 30

// least finds for each start of the gore 0, and for each start of the gores
// behind it, the least waste between them; none if none leads around the ring.
func (m model) least(near int) int {
	least := far
	gores := len(m.f.Starts)
	var meets []func(start, next int) bool
	for seam := range gores {
		meets = append(meets, m.surely(seam, near))
	}
	for first := range m.f.Period {
		waste := slices.Repeat([]int{far}, m.f.Period)
		waste[first] = 0
		for seam := range gores {
			next := slices.Repeat([]int{far}, m.f.Period)
			for a := range m.f.Period {
				for b := range m.f.Period {
					if meets[seam](a, b) {
						next[b] = min(next[b], waste[a]+a)
					}
				}
			}
			waste = next
		}
		least = min(least, waste[first])
	}
	if least == far {
		return none
	}
	return least
}

func (m model) closest() int {
	near := 0
	for m.least(near) == none {
		near++
	}
	return near
}

// compare holds what is said of the seams of a figure against the model.
func compare(t *testing.T, f api.Figure) {
	t.Helper()
	m := newModel(f)
	if len(m.truths) == 0 {
		wantErrors(t, "without a truth", inTruths(f, 0), api.ErrNone)
		return
	}
	for seam := range f.Times {
		if n, e := seams.Meets(f, seam); n != m.meets(seam) || e != api.OK {
			t.Errorf("Meets of %d = %d, error %d; want %d", seam, n, e, m.meets(seam))
		}
	}
	if bad, e := seams.Bad(f); !slices.Equal(bad, m.bad()) || e != api.OK {
		t.Errorf("Bad = %v, error %d; want %v", bad, e, m.bad())
	}
	if n, e := seams.Closest(f); n != m.closest() || e != api.OK {
		t.Errorf("Closest = %d, error %d; want %d", n, e, m.closest())
	}
	least, e := seams.Least(f)
	starts, g := seams.Begin(f)
	if want := m.least(f.Near); want == none {
		if e != api.ErrNone || g != api.ErrNone {
			t.Errorf("Least = %d, error %d; Begin = %v, error %d; want none", least, e, starts, g)
		}
	} else {
		beginnings := newModel(starting(f, starts...))
		if least != want || e != api.OK || g != api.OK || sum(starts) != want || len(beginnings.bad()) > 0 {
			t.Errorf("Least = %d, error %d; Begin = %v, error %d; want %d", least, e, starts, g, want)
		}
	}
	if t.Failed() {
		t.Errorf("%+v", f)
	}
}

// random draws figures, always the same ones.
type random struct{ *rand.Rand }

func newRandom(seed uint64) random { return random{rand.New(rand.NewPCG(seed, 4))} }

func (x random) from(low, high int) int { return low + x.IntN(high-low+1) }

// bolt draws one that mostly has a number; its strips say nearly the same.
func (x random) bolt(spread int) api.Bolt {
	low := x.from(0, api.MaxStretch)
	b := api.Bolt{Stretch: span(low, min(api.MaxStretch, low+x.from(0, spread))), Wrong: x.IntN(3)}
	stretch := x.from(b.Stretch.Low, b.Stretch.High)
	for range x.IntN(4) {
		long := x.from(1, api.MaxWidth)
		length := pulled(long, stretch) + x.IntN(6)/5*x.from(0, 60)
		b.Strips = append(b.Strips, strip(long, max(0, length-x.IntN(4)), length+x.IntN(4)))
	}
	return b
}

// size is how many figures are drawn, and how large they are at most.
type size struct{ many, bolts, spread, gores, period int }

func (x random) dome(z size) api.Dome {
	d := api.Dome{Loss: x.from(0, api.MaxLoss), Slope: x.from(0, 300)}
	for range x.from(1, z.bolts) {
		d.Bolts = append(d.Bolts, x.bolt(z.spread))
	}
	for range x.from(api.MinGores, z.gores) {
		d.Gores = append(d.Gores, x.IntN(len(d.Bolts)))
	}
	for range x.from(1, 4) {
		width := x.from(2*d.Loss, api.MaxWidth)
		round := len(d.Gores) * pulled(width-2*d.Loss, x.from(0, api.MaxStretch))
		d.Rounds = append(d.Rounds, span(max(0, round-x.IntN(round/10+20)), min(api.MaxRound, round+x.IntN(round/10+20))))
		d.Widths = append(d.Widths, width)
	}
	return d
}

// figure draws one whose starts mostly follow each other as the figures do.
func (x random) figure(z size) api.Figure {
	f := api.Figure{Dome: x.dome(z), Period: x.from(1, z.period), Run: x.from(0, api.MaxWidth)}
	if x.IntN(2) == 0 {
		f.Run = x.from(0, 150)
	}
	f.Near = x.from(0, f.Period/2)
	start := x.IntN(f.Period)
	for _, bolt := range f.Dome.Gores {
		f.Starts = append(f.Starts, start)
		f.Times = append(f.Times, x.from(1, api.MaxSew))
		start = modulo(start+pulled(f.Run, f.Dome.Bolts[bolt].Stretch.Low)+x.from(-2, 2), f.Period)
		if x.IntN(6) == 0 {
			start = x.IntN(f.Period)
		}
	}
	return f
}

func sizes() map[string]size {
	return map[string]size{
		"small":       {1500, 2, 10, 5, 8},
		"many gores":  {150, 3, 6, api.MaxGores, 25},
		"long period": {60, 2, 20, 6, api.MaxPeriod},
		"wide":        {150, 1, api.MaxStretch, 8, 30},
		"four bolts":  {60, 4, 4, 8, 40},
		"large":       {12, 2, 10, api.MaxGores, api.MaxPeriod},
	}
}

func TestModel(t *testing.T) {
	for name, z := range sizes() {
		t.Run(name, func(t *testing.T) {
			x := newRandom(1)
			for range z.many {
				compare(t, x.figure(z))
				if t.Failed() {
					return
				}
			}
		})
	}
}

// What the tests say of single figures is so.
func TestModelOfKnowns(t *testing.T) {
	for _, x := range knowns() {
		compare(t, x.f)
	}
	for _, x := range wastes() {
		compare(t, x.f)
	}
}

// The figures that are drawn have all that can be known in them.
func TestModelMeetsAll(t *testing.T) {
	met := map[string]int{}
	for _, z := range sizes() {
		x := newRandom(1)
		for range z.many {
			meet(met, x.figure(z))
		}
	}
	for _, name := range []string{"no truth", "surely", "never", "perhaps", "none", "no waste", "waste", "closer", "as close", "closest 0", "closest as far as can be"} {
		if met[name] < 20 {
			t.Errorf("%s: %d", name, met[name])
		}
	}
}

func meet(met map[string]int, f api.Figure) {
	if _, e := seams.Bad(f); e != api.OK {
		met["no truth"]++
		return
	}
	for seam := range f.Times {
		n, _ := seams.Meets(f, seam)
		met[map[int]string{api.Surely: "surely", api.Never: "never", api.Perhaps: "perhaps"}[n]]++
	}
	least, e := seams.Least(f)
	switch {
	case e != api.OK:
		met["none"]++
	case least == 0:
		met["no waste"]++
	default:
		met["waste"]++
	}
	closest, _ := seams.Closest(f)
	switch {
	case closest == f.Near:
		met["as close"]++
	case closest < f.Near:
		met["closer"]++
	}
	switch {
	case closest == 0:
		met["closest 0"]++
	case closest == f.Period/2:
		met["closest as far as can be"]++
	}
}

// occupied is the set of gores that a seam of a schedule occupies, as the chapter defines it.
func occupied(begins, times []int, seam int) int {
	gores := len(times)
	set := 1<<seam | 1<<((seam+1)%gores)
	for range gores {
		for i := range gores {
			two := 1<<i | 1<<((i+1)%gores)
			if begins[i] != notBegun && begins[i]+times[i] <= begins[seam] && set&two != 0 {
				set |= two
			}
		}
	}
	return set
}

const notBegun = -1

// disturbs tells whether two seams occupy the same gore at the same time.
func disturbs(begins, times []int, a, b int) bool {
	atOnce := begins[a] < begins[b]+times[b] && begins[b] < begins[a]+times[a]
	return atOnce && occupied(begins, times, a)&occupied(begins, times, b) != 0
}

// canBeSewn tells whether there is a minute for each seam, and the schedule can be sewn.
func canBeSewn(begins, times []int) bool {
	if len(begins) != len(times) || slices.Min(begins) < 0 {
		return false
	}
	for a := range times {
		for b := range a {
			if disturbs(begins, times, a, b) {
				return false
			}
		}
	}
	return true
}

func endOf(begins, times []int) int {
	end := 0
	for seam, begin := range begins {
		end = max(end, begin+times[seam])
	}
	return end
}

// sooner tells whether a schedule that can be sewn ends before a minute; it goes through all of them.
func sooner(times []int, end int) bool {
	begins := make([]int, len(times))
	var rest func(seam int) bool
	rest = func(seam int) bool {
		if seam == len(times) {
			return canBeSewn(begins, times)
		}
		for begins[seam] = 0; begins[seam]+times[seam] < end; begins[seam]++ {
			if rest(seam + 1) {
				return true
			}
		}
		return false
	}
	return rest(0)
}

// inOrder begins seams in an order, each as soon as none that was begun before disturbs it.
func inOrder(times, order []int) []int {
	begins := slices.Repeat([]int{notBegun}, len(times))
	minute := 0
	for i, seam := range order {
		begins[seam] = minute
		for slices.ContainsFunc(order[:i], func(other int) bool { return disturbs(begins, times, seam, other) }) {
			begins[seam]++
		}
		minute = begins[seam]
	}
	return begins
}

// soonest is the end of the best schedule of all orders.
func soonest(times []int) int {
	order := make([]int, len(times))
	for seam := range order {
		order[seam] = seam
	}
	best := far
	var rest func(from int)
	rest = func(from int) {
		if from == len(order) {
			best = min(best, endOf(inOrder(times, order), times))
		}
		for i := from; i < len(order); i++ {
			order[from], order[i] = order[i], order[from]
			rest(from + 1)
			order[from], order[i] = order[i], order[from]
		}
	}
	rest(0)
	return best
}

// times draws some of so many seams, up to a number; often some of them are much less.
func (x random) times(seams, most int) []int {
	var times []int
	for range seams {
		times = append(times, x.from(1, x.from(1, most)))
	}
	return times
}

// compareSewing holds the schedule for times against all schedules, or all orders.
func compareSewing(t *testing.T, times []int) {
	t.Helper()
	want := soonest(times)
	n, e := seams.Soonest(sewing(times...))
	begins, g := seams.Plan(sewing(times...))
	if n != want || e != api.OK {
		t.Errorf("Soonest of %v = %d, error %d; want %d", times, n, e, want)
	}
	if g != api.OK || !canBeSewn(begins, times) || endOf(begins, times) != want {
		t.Errorf("Plan of %v = %v, error %d; want one that ends at %d", times, begins, g, want)
	}
}

func TestModelOfSewing(t *testing.T) {
	x := newRandom(2)
	for seams, many := range map[int]int{3: 200, 4: 200, 5: 100, 6: 60, 7: 8} {
		for range many {
			compareSewing(t, x.times(seams, 9))
		}
	}
}

func TestModelOfKnownSewing(t *testing.T) {
	for _, x := range sewns() {
		if len(x.times) <= 6 {
			compareSewing(t, x.times)
		}
	}
}
