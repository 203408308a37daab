package canes_test

import (
	"maps"
	"math/rand/v2"
	"slices"
	"testing"

	"ferrule/api"
	"ferrule/canes"
)

// model is a cane as the chapter defines it, with all of its truths, and a wanted angle.
type model struct {
	c       api.Cane
	want    api.Span
	springs []int
	known   map[asked]bool
}

// asked is what is known of measuring out: set has a bit for each spring that is left.
type asked struct {
	angle, left, number int
	set                 uint64
}

func newModel(c api.Cane, want api.Span) model {
	m := model{c: c, want: want, known: map[asked]bool{}}
	for k := c.Spring.Low; k <= c.Spring.High; k++ {
		wrong := 0
		for _, b := range c.Bents {
			if v := springsBack(b.By, k); v < b.Back.Low || v > b.Back.High {
				wrong++
			}
		}
		if wrong <= c.Wrong {
			m.springs = append(m.springs, k)
		}
	}
	return m
}

// springsBack is by how much a bend springs back: as often as 1000 goes into the product.
func springsBack(bend, k int) int {
	many := 0
	for rest := bend * k; rest >= 1000; rest -= 1000 {
		many++
	}
	return many
}

func (m model) wants(angle int) bool { return angle >= m.want.Low && angle <= m.want.High }

// possible are all bends that are possible with a number.
func (m model) possible(number int) []int {
	var all []int
	for b := 1; b <= api.MaxBend; b++ {
		if b <= m.c.Limit-m.c.Tire*number {
			all = append(all, b)
		}
	}
	return all
}

// angles are those after bends, one for each truth.
func (m model) angles(bends []int) []int {
	angles := make([]int, len(m.springs))
	for _, b := range bends {
		for i, k := range m.springs {
			angles[i] += b - springsBack(b, k)
		}
	}
	return angles
}

func (m model) after(bends []int) api.Span {
	angles := m.angles(bends)
	return span(slices.Min(angles), slices.Max(angles))
}

func (m model) fits(bends []int) int {
	many := 0
	for _, a := range m.angles(bends) {
		if m.wants(a) {
			many++
		}
	}
	switch many {
	case 0:
		return never
	case len(m.springs):
		return surely
	}
	return perhaps
}

// angles41 are the angles in all truths, of which there are at most 41.
type angles41 [api.MaxSpread + 1]int

// fewest goes through the angles that can be had with as many bends, in all
// truths. With large bends there are too many of these; there it goes through
// those in the least and the greatest truth, between which all others are.
func (m model) fewest() int {
	springs := m.springs
	if m.c.Limit > 12 {
		springs = []int{springs[0], springs[len(springs)-1]}
	}
	now := map[angles41]bool{{}: true}
	for made := range api.MaxBends + 1 {
		next := map[angles41]bool{}
		for angles := range now {
			if !slices.ContainsFunc(angles[:len(springs)], func(a int) bool { return !m.wants(a) }) {
				return made
			}
			for _, b := range m.possible(made) {
				then := angles
				for i, k := range springs {
					then[i] += b - b*k/1000
				}
				next[then] = true
			}
		}
		now = next
	}
	return none
}

// groups are springs by what a bend springs back by.
func groups(bend int, springs []int) map[int][]int {
	all := map[int][]int{}
	for _, k := range springs {
		all[bend*k/1000] = append(all[bend*k/1000], k)
	}
	return all
}

// out tells whether it can be measured out from an angle.
func (m model) out(angle, left, number int, springs []int) bool {
	a := asked{angle, left, number, 0}
	for _, k := range springs {
		a.set |= 1 << (k - m.c.Spring.Low)
	}
	if is, ok := m.known[a]; ok {
		return is
	}
	is := m.wants(angle)
	if !is && left > 0 {
		is = slices.ContainsFunc(m.possible(number), func(b int) bool { return m.leads(b, angle, left, number, springs) })
	}
	m.known[a] = is
	return is
}

// leads tells whether it can be measured out with a bend as the next one.
func (m model) leads(bend, angle, left, number int, springs []int) bool {
	for v, group := range groups(bend, springs) {
		if !m.out(angle+bend-v, left-1, number+1, group) {
			return false
		}
	}
	return true
}

func (m model) measured() int {
	for n := range api.MaxBends + 1 {
		if m.out(0, n, 0, m.springs) {
			return n
		}
	}
	return none
}

// firsts are the first bends with which it can be measured out with so many.
func (m model) firsts(many int) []int {
	var all []int
	for _, b := range m.possible(0) {
		if many > 0 && m.leads(b, 0, many, 0, m.springs) {
			all = append(all, b)
		}
	}
	return all
}

// wantNumber holds a number against the one of the model; none stands for ErrNone.
func wantNumber(t *testing.T, name string, n int, e api.Errno, want int) {
	t.Helper()
	if want == none && (n != 0 || e != api.ErrNone) || want != none && (n != want || e != api.OK) {
		t.Errorf("%s = %d, error %d; want %d", name, n, e, want)
	}
}

// compare holds all answers of a cane against its model.
func compare(t *testing.T, c api.Cane, want api.Span, tried []int) {
	t.Helper()
	m := newModel(c, want)
	springs, e := canes.Springs(c)
	if !slices.Equal(springs, m.springs) || (e == api.OK) != (len(springs) > 0) {
		t.Errorf("Springs = %v, error %d; want %v", springs, e, m.springs)
	}
	if len(m.springs) > 0 {
		compareBends(t, m, tried)
		compareMeasured(t, m)
	}
	if t.Failed() {
		t.Errorf("%+v, %v, %v", c, want, tried)
	}
}

func compareBends(t *testing.T, m model, tried []int) {
	t.Helper()
	if s, e := canes.After(m.c, tried); s != m.after(tried) || e != api.OK {
		t.Errorf("After = %v, error %d; want %v", s, e, m.after(tried))
	}
	if n, e := canes.Fits(m.c, tried, m.want); n != m.fits(tried) || e != api.OK {
		t.Errorf("Fits = %d, error %d; want %d", n, e, m.fits(tried))
	}
	want := m.fewest()
	n, e := canes.Fewest(m.c, m.want)
	wantNumber(t, "Fewest", n, e, want)
	l, e := canes.Bends(m.c, m.want)
	wantNumber(t, "many of Bends", len(l), e, want)
	for number, b := range l {
		if !slices.Contains(m.possible(number), b) {
			t.Errorf("Bends = %v, but the bend %d is not possible", l, number)
		}
	}
	if want != none && m.fits(l) != surely {
		t.Errorf("Bends = %v, which do not surely fit", l)
	}
}

func compareMeasured(t *testing.T, m model) {
	t.Helper()
	want := m.measured()
	n, e := canes.Measured(m.c, m.want)
	wantNumber(t, "Measured", n, e, want)
	b, e := canes.First(m.c, m.want)
	if want > 0 {
		if !slices.Contains(m.firsts(want), b) || e != api.OK {
			t.Errorf("First = %d, error %d; want one of %v", b, e, m.firsts(want))
		}
		return
	}
	wantNumber(t, "First", b, e, want)
}

// random draws canes and steamers, always the same ones.
type random struct{ *rand.Rand }

func newRandom(seed uint64) random { return random{rand.New(rand.NewPCG(seed, 6))} }

func (x random) from(low, high int) int { return low + x.IntN(high-low+1) }

// size is how many canes are drawn, and how large they are at most.
type size struct{ many, limit, tire, spread, bents, wide int }

// cane draws one whose pieces agree with a number, but for some that are false.
func (x random) cane(z size) api.Cane {
	spread := x.IntN(z.spread + 1)
	low := x.IntN(api.MaxSpring - spread + 1)
	c := api.Cane{Spring: span(low, low+spread), Wrong: x.IntN(api.MaxFalse + 1), Limit: max(x.from(1, z.limit), x.from(1, z.limit)), Tire: x.IntN(z.tire + 1)}
	is := x.from(low, low+spread)
	for range x.IntN(z.bents + 1) {
		c.Bents = append(c.Bents, x.bent(is))
	}
	return c
}

// bent draws a piece that agrees with a spring, mostly.
func (x random) bent(spring int) api.Bent {
	by := x.from(1, api.MaxBend)
	back := by * spring / 1000
	low, high := back, back
	switch x.IntN(4) {
	case 0:
		low, high = max(0, back-1), back+x.IntN(2)
	case 1:
		low = max(0, back+x.from(-2, 2))
		high = low
	case 2:
		low = by * min(api.MaxSpring, spring+x.IntN(40)) / 1000
		high = low
	}
	return bent(by, low, high)
}

// bends draws possible ones, sometimes the greatest ones.
func (x random) bends(c api.Cane) []int {
	var all []int
	least := 1
	if x.IntN(4) == 0 {
		least = c.Limit
	}
	for number := range x.IntN(api.MaxBends + 1) {
		if greatest := c.Limit - c.Tire*number; greatest > 0 {
			all = append(all, max(x.from(min(least, greatest), greatest), x.from(1, greatest)))
		}
	}
	return all
}

// wanted draws bends, and an angle at which they can end, or one near to it.
func (x random) wanted(c api.Cane, wide int) ([]int, api.Span) {
	bends, angle, k := x.bends(c), 0, x.from(c.Spring.Low, c.Spring.High)
	for _, b := range bends {
		angle += b - b*k/1000
	}
	low := max(0, angle-x.IntN(wide+1))
	if x.IntN(4) == 0 {
		low += x.IntN(5)
	}
	return bends, span(low, min(api.MaxAngle, low+x.IntN(wide+1)))
}

func sizes() map[string]size {
	return map[string]size{
		"small":       {400, 12, 4, 40, 2, 1},
		"many pieces": {300, 30, 9, 40, api.MaxBents, 0},
		"with gaps":   {300, 24, 9, 40, 6, 1},
		"tired":       {200, 40, 20, 40, 1, 0},
		"few bends":   {120, 60, 50, 40, 0, 0},
		"known":       {150, 20, 2, 0, 2, 1},
		"large":       {30, api.MaxBend, 30, 40, 1, 2},
	}
}

func TestModel(t *testing.T) {
	for name, z := range sizes() {
		t.Run(name, func(t *testing.T) {
			x := newRandom(1)
			for range z.many {
				c := x.cane(z)
				tried, want := x.wanted(c, z.wide)
				compare(t, c, want, tried)
				if t.Failed() {
					return
				}
			}
		})
	}
}

// What the tests say of single canes is so.
func TestModelOfKnowns(t *testing.T) {
	for i, x := range sprungs() {
		if m := newModel(x.c, span(0, 0)); !slices.Equal(m.springs, x.springs) {
			t.Errorf("%d: %v, but the model has %v", i, x.springs, m.springs)
		}
	}
	for i, x := range endeds() {
		for want, fits := range x.fits {
			if m := newModel(x.c, want); m.after(x.bends) != x.after || m.fits(x.bends) != fits {
				t.Errorf("%d: of %v %v, %d, but the model has %v, %d", i, want, x.after, fits, m.after(x.bends), m.fits(x.bends))
			}
		}
	}
	for i, x := range wanteds() {
		m := newModel(x.c, x.want)
		if n := m.measured(); n != x.measured || !slices.Equal(m.firsts(n), x.first) {
			t.Errorf("%d: %d, %v, but the model has %d, %v", i, x.measured, x.first, n, m.firsts(n))
		}
		if n := m.fewest(); n != x.fewest {
			t.Errorf("%d: %d, but the model has %d", i, x.fewest, n)
		}
	}
}

// The canes that are drawn have all that can be known in them.
func TestModelMeetsAll(t *testing.T) {
	met := map[string]int{}
	for _, z := range sizes() {
		x := newRandom(1)
		for range z.many {
			c := x.cane(z)
			tried, want := x.wanted(c, z.wide)
			if m := newModel(c, want); len(m.springs) == 0 {
				met["no truth"]++
			} else {
				meet(met, m, tried)
			}
		}
	}
	for _, name := range []string{
		"no truth", "surely", "never", "perhaps", "a gap", "several truths", "no bends", "three bends and more",
		"never measured", "measuring helps", "only by measuring", "six bends", "further bends crack",
	} {
		if met[name] < 10 {
			t.Errorf("%s: %d", name, met[name])
		}
	}
}

func meet(met map[string]int, m model, tried []int) {
	met[map[int]string{surely: "surely", never: "never", perhaps: "perhaps"}[m.fits(tried)]]++
	fewest, e := canes.Fewest(m.c, m.want)
	measured, h := canes.Measured(m.c, m.want)
	most := m.springs[len(m.springs)-1]
	for name, is := range map[string]bool{
		"a gap":                most-m.springs[0] >= len(m.springs),
		"several truths":       len(m.springs) > 3,
		"no bends":             h == api.OK && measured == 0,
		"three bends and more": measured >= 3,
		"never measured":       h == api.ErrNone,
		"measuring helps":      e == api.OK && measured < fewest,
		"only by measuring":    e == api.ErrNone && h == api.OK,
		"six bends":            measured == 6,
		"further bends crack":  h == api.OK && len(m.possible(measured)) == 0,
	} {
		if is {
			met[name]++
		}
	}
}

// doneAt goes minute by minute through what happens with an order.
func doneAt(s api.Steamer, order []int) int {
	var in []int // the minutes in which canes went in
	out, free := 0, 0
	for minute := 0; ; minute++ {
		for changed := true; changed; {
			changed = false
			if len(in) < len(order) && len(in)-out < s.Room {
				in = append(in, minute)
				changed = true
			}
			if out < len(in) && minute >= free && minute-in[out] >= s.Boils[order[out]].Soak {
				free = minute + s.Boils[order[out]].Bend
				out++
				changed = true
			}
		}
		if out == len(order) {
			return free
		}
	}
}

// allOrders puts each boil into each place of all orders of the ones before it.
func allOrders(many int) [][]int {
	all := [][]int{{}}
	for boil := range many {
		var longer [][]int
		for _, order := range all {
			for place := range len(order) + 1 {
				longer = append(longer, slices.Insert(slices.Clone(order), place, boil))
			}
		}
		all = longer
	}
	return all
}

// steamer draws one with minutes up to some.
func (x random) steamer(boils, minutes int) api.Steamer {
	s := api.Steamer{Room: x.from(1, min(api.MaxRoom, boils+1))}
	for range x.from(0, boils) {
		s.Boils = append(s.Boils, api.Boil{Soak: x.IntN(minutes + 1), Bend: x.IntN(minutes + 1)})
	}
	return s
}

func compareSteamer(t *testing.T, s api.Steamer) {
	t.Helper()
	least := map[int]bool{}
	for _, order := range allOrders(len(s.Boils)) {
		minute := doneAt(s, order)
		least[minute] = true
		if n, e := canes.Done(s, order); n != minute || e != api.OK {
			t.Errorf("Done of %v = %d, error %d; want %d", order, n, e, minute)
		}
	}
	want := slices.Min(slices.Collect(maps.Keys(least)))
	if n, e := canes.Quickest(s); n != want || e != api.OK {
		t.Errorf("Quickest = %d, error %d; want %d", n, e, want)
	}
	l, e := canes.Order(s)
	if n, f := canes.Done(s, l); e != api.OK || n != want || f != api.OK {
		t.Errorf("Order = %v, error %d, done at %d, error %d; want %d", l, e, n, f, want)
	}
	if t.Failed() {
		t.Errorf("%+v", s)
	}
}

func TestModelOfSteamers(t *testing.T) {
	x := newRandom(2)
	for _, z := range []struct{ many, boils, minutes int }{{600, 4, 3}, {300, 5, 12}, {4, 7, 6}, {30, 3, api.MaxSoak}} {
		for range z.many {
			compareSteamer(t, x.steamer(z.boils, z.minutes))
			if t.Failed() {
				return
			}
		}
	}
	for i, x := range steameds() {
		for _, y := range x.orders {
			if n := doneAt(x.s, y.order); n != y.minute {
				t.Errorf("%d: %v is done at %d, but in the model at %d", i, y.order, y.minute, n)
			}
		}
	}
}
