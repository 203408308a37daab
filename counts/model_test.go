package counts_test

import (
	"maps"
	"math/rand/v2"
	"slices"
	"testing"

	"ferrule/api"
	"ferrule/counts"
)

// dome is one truth of a dome: its lift, and the strength of each rib.
type dome struct {
	lift      int
	strengths []int
}

// model is a run as the chapter defines it, with all its cases, all that are part of a truth, and all truths of its dome.
type model struct {
	r             api.Run
	cases, truths [][]int
	domes         []dome
}

func newModel(r api.Run) model {
	m := model{r: r, cases: cases(r), domes: domes(r.Canopy)}
	for _, forces := range m.cases {
		if len(wrongMeters(r, forces)) <= r.Wrong {
			m.truths = append(m.truths, forces)
		}
	}
	return m
}

// cases are all ways in which each blow has a force of its span.
func cases(r api.Run) [][]int {
	many := 1
	for _, b := range r.Blows {
		many *= b.Force.High - b.Force.Low + 1
	}
	var list [][]int
	for numeral := range many {
		var forces []int
		for _, b := range r.Blows {
			base := b.Force.High - b.Force.Low + 1
			forces = append(forces, b.Force.Low+numeral%base)
			numeral /= base
		}
		list = append(list, forces)
	}
	return list
}

// counted is how many forces are at least a limit.
func counted(forces []int, limit int) int {
	sorted := slices.Sorted(slices.Values(forces))
	below, _ := slices.BinarySearch(sorted, limit)
	return len(forces) - below
}

// wrongMeters are the meters that are not right in a case.
func wrongMeters(r api.Run, forces []int) []int {
	var list []int
	for i, m := range r.Meters {
		if counted(forces, m.Limit) != m.Count {
			list = append(list, i)
		}
	}
	return list
}

// domes are all truths of a dome.
func domes(d api.Canopy) []dome {
	strengths := [][]int{nil}
	for _, s := range d.Ribs {
		var longer [][]int
		for _, l := range strengths {
			for n := s.Low; n <= s.High; n++ {
				longer = append(longer, append(slices.Clone(l), n))
			}
		}
		strengths = longer
	}
	var list []dome
	for _, lift := range allLifts(d.Frame) {
		for _, l := range strengths {
			list = append(list, dome{lift, l})
		}
	}
	return list
}

// allLifts are those of all arms and stretchers of the first section, ascending.
func allLifts(f api.Frame) []int {
	lifts := map[int]bool{}
	s := f.Sections[0]
	for a := s.Arm.Low; a <= s.Arm.High; a++ {
		for b := s.Stretch.Low; b <= s.Stretch.High; b++ {
			num, den := f.Low*f.Low+a*a-b*b, 2*f.Low*a
			lift := 200
			for lift > 0 && (lift-100)*den > 100*num {
				lift-- // the greatest one that is not greater than what is rounded
			}
			lifts[lift] = true
		}
	}
	return slices.Sorted(maps.Keys(lifts))
}

// stands tells whether no rib goes in a truth of a dome.
func (x dome) stands(d api.Canopy, at, force int) bool {
	for away, share := range d.Shares {
		if force*x.lift*share/100 > x.strengths[(at+away)%len(x.strengths)] {
			return false
		}
	}
	return true
}

// broken counts the blows of a case that a truth of the dome does not stand.
func (m model) broken(x dome, forces []int) int {
	many := 0
	for i, b := range m.r.Blows {
		if !x.stands(m.r.Canopy, b.At, forces[i]) {
			many++
		}
	}
	return many
}

func (m model) fewest() int {
	least := len(m.r.Meters)
	for _, forces := range m.cases {
		least = min(least, len(wrongMeters(m.r, forces)))
	}
	return least
}

func (m model) forces(blow int) []int {
	var list []int
	for _, forces := range m.truths {
		list = append(list, forces[blow])
	}
	slices.Sort(list)
	return slices.Compact(list)
}

// known is what is known of something that is so in some truths, or not.
func known(so, notSo bool) int {
	switch {
	case so && notSo:
		return api.Perhaps
	case so:
		return api.Surely
	}
	return api.Never
}

func (m model) right(meter int) int {
	right, wrong := false, false
	for _, forces := range m.truths {
		is := slices.Contains(wrongMeters(m.r, forces), meter)
		right, wrong = right || !is, wrong || is
	}
	return known(right, wrong)
}

func (m model) reads(limit int) api.Span {
	var all []int
	for _, forces := range m.truths {
		all = append(all, counted(forces, limit))
	}
	return span(slices.Min(all), slices.Max(all))
}

// harm goes through all truths, of the forces and of the dome.
func (m model) harm() (stood int, harm api.Span) {
	harm = span(len(m.r.Blows), 0)
	all, notAll := false, false
	for _, x := range m.domes {
		for _, forces := range m.truths {
			n := m.broken(x, forces)
			harm = span(min(harm.Low, n), max(harm.High, n))
			all, notAll = all || n == 0, notAll || n > 0
		}
	}
	return known(all, notAll), harm
}

// limits are those at which what is read can change, and some others.
func limits(r api.Run) []int {
	list := []int{0, 1, 50, 99}
	for _, b := range r.Blows {
		for limit := max(0, b.Force.Low-1); limit <= min(99, b.Force.High+2); limit++ {
			list = append(list, limit)
		}
	}
	slices.Sort(list)
	return slices.Compact(list)
}

// compare holds all that is said of a run against the model.
func compare(t *testing.T, r api.Run) {
	t.Helper()
	m := newModel(r)
	if e := counts.Check(r); e != api.OK {
		t.Errorf("error %d", e)
	}
	wantFewest(t, r, m.fewest())
	if len(m.truths) == 0 {
		wantNone(t, r)
		return
	}
	wantMany(t, r, len(m.truths))
	for i := range r.Blows {
		wantForces(t, r, i, m.forces(i)...)
	}
	for i := range r.Meters {
		wantRight(t, r, i, m.right(i))
	}
	for _, limit := range limits(r) {
		wantReads(t, r, limit, m.reads(limit))
	}
	stood, harm := m.harm()
	wantHarm(t, r, stood, harm)
	wantShown(t, r)
}

// wantNone wants that a run has no truth.
func wantNone(t *testing.T, r api.Run) {
	t.Helper()
	wantErrors(t, "no truth", ofTruth(r), api.ErrNone)
	for i := range r.Blows {
		wantErrors(t, "no truth", ofQuestion(r, question{blow: i})[:1], api.ErrNone)
	}
	for i := range r.Meters {
		wantErrors(t, "no truth", ofQuestion(r, question{meter: i})[1:], api.ErrNone)
	}
}

// random draws runs, always the same ones.
type random struct{ *rand.Rand }

func newRandom(seed uint64) random { return random{rand.New(rand.NewPCG(seed, 13))} }

func (x random) from(low, high int) int { return low + x.IntN(high-low+1) }

func (x random) in(s api.Span) int { return x.from(s.Low, s.High) }

// size is how many runs are drawn, of how many ribs, by how much arms, stretchers,
// strengths and forces spread, how many blows, meters and wrong ones there are, and of
// how many of hundred meters the count can be another one than that of one case.
type size struct {
	many                 int
	ribs                 api.Span
	play, spread, gap    int
	blows, meters, wrong api.Span
	hundred              int
}

func sizes() map[string]size {
	return map[string]size{
		"small":         {1500, span(3, 4), 1, 1, 3, span(0, 3), span(0, 5), span(0, 2), 25},
		"no blows":      {100, span(3, 4), 1, 1, 3, span(0, 0), span(0, 5), span(0, 3), 50},
		"one blow":      {600, span(3, 5), 1, 1, 9, span(1, 1), span(0, 5), span(0, 2), 40},
		"wide forces":   {300, span(3, 4), 0, 1, 9, span(2, 3), span(1, 5), span(0, 2), 20},
		"known dome":    {500, span(3, 10), 0, 0, 4, span(1, 5), span(0, 5), span(0, 2), 20},
		"known forces":  {500, span(3, 4), 2, 2, 0, span(1, 8), span(0, 5), span(0, 3), 20},
		"many blows":    {60, span(3, 10), 0, 0, 2, span(8, 8), span(1, 5), span(0, 2), 15},
		"none is wrong": {500, span(3, 4), 1, 1, 4, span(1, 4), span(1, 5), span(0, 0), 0},
		"many wrong":    {500, span(3, 4), 1, 1, 4, span(1, 4), span(4, 5), span(2, 5), 60},
		"contradiction": {500, span(3, 3), 0, 0, 9, span(1, 2), span(2, 3), span(1, 1), 60},
		"rough frames":  {200, span(3, 3), 6, 0, 4, span(1, 3), span(0, 4), span(0, 1), 20},
		"rough ribs":    {200, span(3, 3), 0, 5, 4, span(1, 3), span(0, 4), span(0, 1), 20},
	}
}

// run draws one whose blows are nearly stood, and meters that counted a case of it.
func (x random) run(z size) api.Run {
	force := x.IntN(api.MaxForce + 1)
	r := api.Run{Canopy: x.dome(z, force), Wrong: x.in(z.wrong)}
	for range x.in(z.blows) {
		if many := len(r.Blows); many > 0 && x.IntN(3) == 0 {
			r.Blows = append(r.Blows, r.Blows[x.IntN(many)])
			continue
		}
		low := min(api.MaxForce, max(0, force+x.from(-6, 6)))
		r.Blows = append(r.Blows, blow(x.IntN(len(r.Canopy.Ribs)), low, min(api.MaxForce, low+x.IntN(z.gap+1))))
	}
	forces := x.forces(r)
	for range x.in(z.meters) {
		r.Meters = append(r.Meters, x.meter(forces, force, z.hundred))
	}
	return r
}

// forces draws a case.
func (x random) forces(r api.Run) []int {
	var forces []int
	for _, b := range r.Blows {
		forces = append(forces, x.in(b.Force))
	}
	return forces
}

func (x random) meter(forces []int, near, hundred int) api.Meter {
	limit := near + x.from(-6, 12)
	if len(forces) > 0 && x.IntN(3) > 0 {
		limit = forces[x.IntN(len(forces))] + x.from(-3, 3)
	}
	m := meter(min(api.MaxForce, max(0, limit)), 0)
	m.Count = counted(forces, m.Limit)
	if x.IntN(100) < hundred {
		m.Count = max(0, min(api.MaxBlows, m.Count+x.from(-2, 2)))
	}
	return m
}

// dome draws one whose ribs nearly stand a force, or one that is a little greater.
func (x random) dome(z size, force int) api.Canopy {
	d := api.Canopy{Frame: x.frame(z.play)}
	lifts := allLifts(d.Frame)
	lift := lifts[x.IntN(len(lifts))]
	for range x.in(z.ribs) {
		d.Shares = append(d.Shares, x.from(1, 20))
	}
	load := max(0, force+x.from(-4, 6)) * lift * slices.Max(d.Shares) / 100
	for range d.Shares {
		low := max(0, load+x.from(-1, 1))
		d.Ribs = append(d.Ribs, span(low, low+x.IntN(z.spread+1)))
	}
	return d
}

// frame draws one whose first section has any cosine at Low, sometimes one beyond the ends.
func (x random) frame(play int) api.Frame {
	low := x.from(10, 60)
	f := api.Frame{Low: low, High: low + x.IntN(30), Ease: api.Frac{Num: x.IntN(3), Den: 20}, Rod: x.IntN(400), Case: x.IntN(400)}
	for range x.from(1, api.MaxFolds) {
		arm := x.from(low/2, low+20)
		stretch := x.from(max(1, arm-low, low-arm), arm+low+2)
		f.Sections = append(f.Sections, section(span(arm, arm+x.IntN(play+1)), span(stretch, stretch+x.IntN(play+1)), x.IntN(5), api.Frac{Num: x.IntN(4), Den: 3 + x.IntN(3)}))
	}
	return f
}

func TestModel(t *testing.T) {
	for name, z := range sizes() {
		t.Run(name, func(t *testing.T) {
			x := newRandom(1)
			for range z.many {
				r := x.run(z)
				compare(t, r)
				if t.Failed() {
					t.Fatalf("%+v", r)
				}
			}
		})
	}
}

// Runs with many thousands of cases.
func TestModelOfLargeRuns(t *testing.T) {
	x := newRandom(2)
	for i := range 4 {
		r := x.run(size{1, span(3, 10), 0, 0, 0, span(1, 1), span(i+1, i+1), span(1, 1), 10})
		for range 7 {
			low := min(94, max(0, r.Blows[0].Force.Low+x.from(-2, 2)))
			r.Blows = append(r.Blows, blow(x.IntN(len(r.Canopy.Ribs)), low, low+4+i%2))
		}
		if many := len(cases(r)); many < 70000 {
			t.Errorf("%d cases", many)
		}
		forces := x.forces(r)
		for k, m := range r.Meters {
			r.Meters[k].Count = counted(forces, m.Limit)
		}
		compare(t, r)
		if t.Failed() {
			t.Fatalf("%+v", r)
		}
	}
}

// count counts what is so.
func count(met map[string]int, all map[string]bool) {
	for name, is := range all {
		if is {
			met[name]++
		}
	}
}

// wantMet wants that each of these was met a number of times at the least.
func wantMet(t *testing.T, met map[string]int, least int, names ...string) {
	t.Helper()
	for _, name := range names {
		if met[name] < least {
			t.Errorf("%s: %d", name, met[name])
		}
	}
}

// The runs that are drawn have all that can be in them.
func TestModelMeetsAll(t *testing.T) {
	met := map[string]int{}
	for _, z := range sizes() {
		x := newRandom(1)
		for range min(z.many, 500) {
			m := newModel(x.run(z))
			many := len(m.truths)
			count(met, map[string]bool{"no truth": many == 0, "one truth": many == 1, "many truths": many > 50, "not all cases": many > 1 && many < len(m.cases)})
			if many > 0 {
				meetMeters(met, m)
				meetBlows(met, m)
			}
		}
	}
	wantMet(t, met, 20,
		"no truth", "one truth", "many truths", "not all cases", "a right meter", "a wrong meter", "perhaps", "as many wrong as can be", "fewer wrong than can be", "equal limits",
		"one force", "forces with a gap", "least and greatest", "stood", "not stood", "perhaps stood", "some harm", "harm by the dome alone", "harm by the forces alone", "harm of one number", "less harm than of each blow alone", "more harm than of each blow alone",
	)
}

func meetMeters(met map[string]int, m model) {
	most, limits := 0, map[int]bool{} // wrong ones in a truth
	for _, forces := range m.truths {
		most = max(most, len(wrongMeters(m.r, forces)))
	}
	for i, o := range m.r.Meters {
		right := m.right(i)
		count(met, map[string]bool{"a right meter": right == api.Surely, "a wrong meter": right == api.Never, "perhaps": right == api.Perhaps, "equal limits": limits[o.Limit]})
		limits[o.Limit] = true
	}
	count(met, map[string]bool{"as many wrong as can be": most > 1 && most == m.r.Wrong, "fewer wrong than can be": m.fewest() < most})
}

func meetBlows(met map[string]int, m model) {
	for i := range m.r.Blows {
		l := m.forces(i)
		count(met, map[string]bool{"one force": len(l) == 1, "forces with a gap": l[len(l)-1]-l[0] >= len(l), "least and greatest": l[0] == 0 || l[len(l)-1] == api.MaxForce})
	}
	stood, harm := m.harm()
	oneDome, oneCase := m, m
	oneDome.domes, oneCase.truths = m.domes[:1], m.truths[:1]
	_, byForces := oneDome.harm()
	_, byDome := oneCase.harm()
	count(met, map[string]bool{
		"stood": stood == api.Surely, "not stood": stood == api.Never, "perhaps stood": stood == api.Perhaps, "some harm": harm.Low > 0 && harm.Low < harm.High,
		"harm by the dome alone": byDome.Low < byDome.High, "harm by the forces alone": byForces.Low < byForces.High, "harm of one number": len(m.truths) > 1 && harm.Low == harm.High && harm.Low > 0,
	})
	least, greatest := 0, 0 // if the blows did not depend on each other
	for i := range m.r.Blows {
		l := m.forces(i)
		alone := m
		alone.r.Blows, alone.truths = m.r.Blows[i:i+1], nil
		for _, force := range l {
			alone.truths = append(alone.truths, []int{force})
		}
		_, one := alone.harm()
		least, greatest = least+one.Low, greatest+one.High
	}
	count(met, map[string]bool{"less harm than of each blow alone": harm.High < greatest, "more harm than of each blow alone": harm.Low > least})
}
