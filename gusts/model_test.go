package gusts_test

import (
	"maps"
	"math/big"
	"math/rand/v2"
	"slices"
	"testing"

	"ferrule/api"
	"ferrule/gusts"
)

// truth is a lift, and a strength of each rib.
type truth struct {
	lift      int
	strengths []int
}

// model is a dome as the chapter defines it, with all of its truths.
type model struct {
	d      api.Canopy
	truths []truth
}

func newModel(d api.Canopy) model {
	m := model{d: d}
	strengths := [][]int{nil}
	for _, s := range d.Ribs {
		var longer [][]int
		for _, l := range strengths {
			for n := s.Low; n <= s.High; n++ {
				longer = append(longer, append(slices.Clone(l), n))
			}
		}
		strengths = longer
	}
	for _, lift := range allLifts(d.Frame) {
		for _, l := range strengths {
			m.truths = append(m.truths, truth{lift, l})
		}
	}
	return m
}

// allLifts are those of all arms and stretchers of the first section, ascending.
func allLifts(f api.Frame) []int {
	lifts := map[int]bool{}
	s := f.Sections[0]
	for arm := s.Arm.Low; arm <= s.Arm.High; arm++ {
		for stretch := s.Stretch.Low; stretch <= s.Stretch.High; stretch++ {
			lifts[liftOf(f.Low, arm, stretch)] = true
		}
	}
	return slices.Sorted(maps.Keys(lifts))
}

func liftOf(d, arm, stretch int) int {
	return liftAt(big.NewRat(int64(d*d+arm*arm-stretch*stretch), int64(2*d*arm)))
}

// liftAt is the lift of a cosine.
func liftAt(cosine *big.Rat) int {
	q := new(big.Rat).Add(big.NewRat(100, 1), new(big.Rat).Mul(big.NewRat(100, 1), cosine))
	// Div of big.Int rounds towards less, as its divisor is above 0
	return min(200, max(0, int(new(big.Int).Div(q.Num(), q.Denom()).Int64())))
}

func modulo(a, b int) int { return ((a % b) + b) % b }

func (m model) load(x truth, g api.Gust, rib int) int {
	return g.Force * x.lift * m.d.Shares[modulo(rib-g.At, len(m.d.Ribs))] / 100
}

// handed is half of the loads of the ribs that are gone, of those to which a
// step leads before any rib that stands.
func (m model) handed(x truth, g api.Gust, gone map[int]bool, rib, step int) int {
	many := len(m.d.Ribs)
	sum := 0
	for away := 1; away < many; away++ {
		reached := true
		for between := 1; between <= away; between++ {
			reached = reached && gone[modulo(rib+step*between, many)]
		}
		if reached {
			sum += m.load(x, g, modulo(rib+step*away, many))
		}
	}
	return sum / 2
}

// rounds are the ribs that go in each round of a truth.
func (m model) rounds(x truth, g api.Gust) [][]int {
	var rounds [][]int
	gone := map[int]bool{}
	for {
		var going []int
		for rib := range m.d.Ribs {
			load := m.load(x, g, rib)
			if len(rounds) > 0 {
				load += m.handed(x, g, gone, rib, 1) + m.handed(x, g, gone, rib, -1)
			}
			if !gone[rib] && load > x.strengths[rib] {
				going = append(going, rib)
			}
		}
		if len(going) == 0 {
			return rounds
		}
		for _, rib := range going {
			gone[rib] = true
		}
		rounds = append(rounds, going)
	}
}

// stands tells whether no rib goes in the first round of any gust in a truth.
func (m model) stands(x truth, class []api.Gust) bool {
	for _, g := range class {
		for rib := range m.d.Ribs {
			if m.load(x, g, rib) > x.strengths[rib] {
				return false
			}
		}
	}
	return true
}

func (m model) known(class []api.Gust) int {
	many := 0
	for _, x := range m.truths {
		if m.stands(x, class) {
			many++
		}
	}
	switch many {
	case 0:
		return api.Never
	case len(m.truths):
		return api.Surely
	}
	return api.Perhaps
}

// goes are the ribs that are gone at the end in each truth, and in some truth.
func (m model) goes(g api.Gust) (sure, may []int) {
	many := make([]int, len(m.d.Ribs))
	for _, x := range m.truths {
		for _, rib := range slices.Concat(m.rounds(x, g)...) {
			many[rib]++
		}
	}
	for rib, n := range many {
		if n == len(m.truths) {
			sure = append(sure, rib)
		}
		if n > 0 {
			may = append(may, rib)
		}
	}
	return sure, may
}

// firsts are the ribs that go in the first round of some gust of a class in some truth.
func (m model) firsts(class []api.Gust) []int {
	var ribs []int
	for rib := range m.d.Ribs {
		weak := false
		for _, x := range m.truths {
			for _, g := range class {
				weak = weak || m.load(x, g, rib) > x.strengths[rib]
			}
		}
		if weak {
			ribs = append(ribs, rib)
		}
	}
	return ribs
}

// first is the number of the first gust that is not stood in some truth; none if there is none.
func (m model) first(class []api.Gust) int {
	for number := range class {
		if len(m.firsts(class[number:number+1])) > 0 {
			return number
		}
	}
	return none
}

func (m model) loads(g api.Gust) []api.Span {
	var loads []api.Span
	for rib := range m.d.Ribs {
		s := span(m.load(m.truths[0], g, rib), m.load(m.truths[0], g, rib))
		for _, x := range m.truths {
			s = span(min(s.Low, m.load(x, g, rib)), max(s.High, m.load(x, g, rib)))
		}
		loads = append(loads, s)
	}
	return loads
}

func (m model) most(at int) int {
	force := api.MaxForce
	for m.known(class(gust(force, at))) != api.Surely {
		force--
	}
	return force
}

// compare holds all that is said of a dome and a class against the model.
func compare(t *testing.T, d api.Canopy, class []api.Gust) {
	t.Helper()
	m := newModel(d)
	lifts := allLifts(d.Frame)
	if s, e := gusts.Lift(d); s != span(lifts[0], lifts[len(lifts)-1]) || e != api.OK {
		t.Errorf("Lift = %v, error %d; want %v", s, e, lifts)
	}
	for _, g := range class {
		if l, e := gusts.Loads(d, g); !slices.Equal(l, m.loads(g)) || e != api.OK {
			t.Errorf("Loads of %v = %v, error %d; want %v", g, l, e, m.loads(g))
		}
		sure, may := m.goes(g)
		if a, b, e := gusts.Goes(d, g); !slices.Equal(a, sure) || !slices.Equal(b, may) || e != api.OK {
			t.Errorf("Goes of %v = %v, %v, error %d; want %v, %v", g, a, b, e, sure, may)
		}
	}
	if n, e := gusts.Stands(d, class); n != m.known(class) || e != api.OK {
		t.Errorf("Stands = %d, error %d; want %d", n, e, m.known(class))
	}
	n, ribs, e := gusts.First(d, class)
	if want := m.first(class); want == none {
		if n != 0 || len(ribs) > 0 || e != api.ErrNone {
			t.Errorf("First = %d, %v, error %d; want none", n, ribs, e)
		}
	} else if all := m.firsts(class[want : want+1]); n != want || !slices.Equal(ribs, all) || e != api.OK {
		t.Errorf("First = %d, %v, error %d; want %d, %v", n, ribs, e, want, all)
	}
	if ribs, e := gusts.Weak(d, class); !slices.Equal(ribs, m.firsts(class)) || e != api.OK {
		t.Errorf("Weak = %v, error %d; want %v", ribs, e, m.firsts(class))
	}
	if t.Failed() {
		t.Errorf("%+v, %v", d, class)
	}
}

func compareMost(t *testing.T, d api.Canopy) {
	t.Helper()
	m := newModel(d)
	for at := range d.Ribs {
		if n, e := gusts.Most(d, at); n != m.most(at) || e != api.OK {
			t.Errorf("%+v: Most of %d = %d, error %d; want %d", d, at, n, e, m.most(at))
		}
	}
}

// random draws domes, always the same ones.
type random struct{ *rand.Rand }

func newRandom(seed uint64) random { return random{rand.New(rand.NewPCG(seed, 5))} }

func (x random) from(low, high int) int { return low + x.IntN(high-low+1) }

// length draws a span of lengths.
func (x random) length(low, high, play int) api.Span {
	n := x.from(max(1, low), high)
	return span(n, n+x.IntN(play+1))
}

// frame draws one whose first section has any cosine at Low, sometimes one beyond the ends.
func (x random) frame(play int) api.Frame {
	low := x.from(1, 60)
	f := api.Frame{Low: low, High: low + x.IntN(30), Ease: api.Frac{Num: x.IntN(3), Den: 20}, Rod: x.IntN(400), Case: x.IntN(400)}
	for range x.from(1, api.MaxFolds) {
		arm := x.length(low/2, low+20, play)
		stretch := x.length(max(arm.Low-low, low-arm.Low), arm.Low+low+2, play)
		f.Sections = append(f.Sections, section(arm, stretch, x.IntN(5), api.Frac{Num: x.IntN(4), Den: 3 + x.IntN(3)}))
	}
	return f
}

// size is how many domes are drawn, and how large they are at most.
type size struct{ many, ribs, play, spread, share, force int }

// dome draws one whose ribs nearly stand a gust, or one that is handed on.
func (x random) dome(z size) (api.Canopy, api.Gust) {
	d := api.Canopy{Frame: x.frame(z.play)}
	g := gust(x.from(1, z.force), 0)
	lifts := allLifts(d.Frame)
	lift := lifts[x.IntN(len(lifts))]
	ribs := x.from(3, z.ribs)
	g.At = x.IntN(ribs)
	for range ribs {
		d.Shares = append(d.Shares, x.IntN(z.share+1))
	}
	for rib := range ribs {
		load := g.Force * lift * d.Shares[modulo(rib-g.At, ribs)] / 100
		low := max(0, load+x.from(-3, 3))
		switch x.IntN(5) {
		case 0, 1:
			low += x.IntN(load + 2)
		case 2:
			low += x.IntN(api.MaxForce * (z.share + 1))
		}
		d.Ribs = append(d.Ribs, span(low, low+x.IntN(z.spread+1)))
	}
	return d, g
}

// class draws gusts near to one.
func (x random) class(d api.Canopy, g api.Gust, most int) []api.Gust {
	var class []api.Gust
	for range x.IntN(most + 1) {
		next := gust(max(0, min(99, g.Force+x.from(-2, 2))), x.IntN(len(d.Ribs)))
		if x.IntN(2) == 0 {
			next = gust(max(0, min(99, g.Force+x.from(-4, 1))), g.At)
		}
		if x.IntN(3) == 0 {
			next.Force = x.IntN(g.Force + 1)
		}
		class = append(class, next)
	}
	return class
}

func sizes() map[string]size {
	return map[string]size{
		"small":           {1500, 4, 1, 2, 4, 9},
		"known strengths": {600, api.MaxRibs, api.MaxPlay, 0, 20, 30},
		"known frame":     {300, 6, 0, 2, 20, 30},
		"wide strengths":  {150, 3, 0, 12, 60, 60},
		"large":           {30, 8, 2, 1, api.MaxShare, api.MaxForce},
		"one rib in ten":  {600, api.MaxRibs, 1, 0, 99, 99},
	}
}

func TestModel(t *testing.T) {
	for name, z := range sizes() {
		t.Run(name, func(t *testing.T) {
			x := newRandom(1)
			for range z.many {
				d, g := x.dome(z)
				compare(t, d, append(x.class(d, g, 3), g))
				compare(t, d, x.class(d, g, 2))
				if t.Failed() {
					return
				}
			}
		})
	}
}

func TestModelOfMost(t *testing.T) {
	x := newRandom(2)
	for _, z := range []size{{200, 5, 1, 1, 6, 30}, {60, api.MaxRibs, 3, 0, api.MaxShare, api.MaxForce}} {
		for range z.many {
			d, _ := x.dome(z)
			compareMost(t, d)
			if t.Failed() {
				return
			}
		}
	}
}

// What the tests say of single domes is so.
func TestModelOfKnowns(t *testing.T) {
	for _, x := range gones() {
		compare(t, x.d, class(x.g))
	}
	for _, x := range stoods() {
		compare(t, x.d, x.class)
	}
	for _, x := range lifteds() {
		compare(t, withFrame(x.frame), class(gust(14, 0), gust(99, 2)))
	}
}

// The domes that are drawn have all that can be known in them.
func TestModelMeetsAll(t *testing.T) {
	met := map[string]int{}
	for _, z := range sizes() {
		x := newRandom(1)
		for range min(z.many, 200) {
			d, g := x.dome(z)
			meet(met, newModel(d), g)
		}
	}
	for _, name := range []string{
		"surely", "never", "perhaps", "none goes", "some go", "all go", "all but one go", "more may go than surely do",
		"three rounds", "no lift", "all the lift", "some lift", "several lifts", "beyond the last rib",
	} {
		if met[name] < 20 {
			t.Errorf("%s: %d", name, met[name])
		}
	}
}

func meet(met map[string]int, m model, g api.Gust) {
	met[map[int]string{surely: "surely", never: "never", perhaps: "perhaps"}[m.known(class(g))]]++
	many := len(m.d.Ribs)
	sure, may := m.goes(g)
	rounds := m.rounds(m.truths[len(m.truths)-1], g)
	lifts := allLifts(m.d.Frame)
	for name, is := range map[string]bool{
		"none goes": len(may) == 0, "some go": len(may) > 0 && len(may) < many-1, "all go": len(sure) == many,
		"all but one go": len(sure) == many-1, "more may go than surely do": len(may) > len(sure), "three rounds": len(rounds) >= 3,
		"no lift": lifts[0] == 0, "all the lift": lifts[len(lifts)-1] == 200, "some lift": lifts[0] > 0 && lifts[len(lifts)-1] < 200,
		"several lifts":       len(lifts) > 3,
		"beyond the last rib": slices.Contains(may, 0) && slices.Contains(may, many-1) && len(may) < many,
	} {
		if is {
			met[name]++
		}
	}
}
