package frames_test

import (
	"math/big"
	"math/rand/v2"
	"slices"
	"testing"

	"ferrule/api"
	"ferrule/frames"
)

// side is an arm and a stretcher of a section.
type side struct{ arm, stretch int }

// at is what a section with some side does at a position.
type at struct {
	cosine *big.Rat // nil if there is none
	binds  bool
}

// model is a frame as the chapter defines it, with all of its truths: for each
// of them the numbers of the sides of all sections.
type model struct {
	f      api.Frame
	sides  [][]side
	truths [][]int
	tables [][][]at // by section, side, and position less Low
}

func newModel(f api.Frame) *model {
	m := &model{f: f, truths: [][]int{nil}}
	for i, s := range f.Sections {
		var sides []side
		var tables [][]at
		for a := s.Arm.Low; a <= s.Arm.High; a++ {
			for b := s.Stretch.Low; b <= s.Stretch.High; b++ {
				sides = append(sides, side{a, b})
				tables = append(tables, m.table(i, side{a, b}))
			}
		}
		m.sides, m.tables = append(m.sides, sides), append(m.tables, tables)
		var truths [][]int
		for _, t := range m.truths {
			for n := range sides {
				truths = append(truths, append(slices.Clone(t), n))
			}
		}
		m.truths = truths
	}
	return m
}

func (m *model) distance(section, r int) int {
	if section == 0 {
		return r
	}
	s := m.f.Sections[section]
	before := m.distance(section-1, r)
	return s.Base + before*s.Gear.Num/s.Gear.Den
}

func (m *model) table(section int, x side) []at {
	ease := big.NewRat(int64(m.f.Ease.Num), int64(m.f.Ease.Den))
	folded := new(big.Rat).Sub(big.NewRat(1, 1), ease)
	straight := new(big.Rat).Sub(ease, big.NewRat(1, 1))
	var all []at
	for r := m.f.Low; r <= m.f.High; r++ {
		d := m.distance(section, r)
		if d == 0 {
			all = append(all, at{nil, true})
			continue
		}
		c := big.NewRat(int64(d*d+x.arm*x.arm-x.stretch*x.stretch), int64(2*d*x.arm))
		all = append(all, at{c, c.Cmp(folded) >= 0 || c.Cmp(straight) <= 0})
	}
	return all
}

func (m *model) at(truth []int, section, r int) at {
	return m.tables[section][truth[section]][r-m.f.Low]
}

// know asks each truth.
func (m *model) know(so func(truth []int) bool) int {
	many := 0
	for _, t := range m.truths {
		if so(t) {
			many++
		}
	}
	switch many {
	case 0:
		return api.Never
	case len(m.truths):
		return api.Surely
	}
	return api.Perhaps
}

func (m *model) cosine(section, r int) (low, high *big.Rat) {
	for _, t := range m.truths {
		c := m.at(t, section, r).cosine
		if c == nil {
			return nil, nil
		}
		if low == nil || c.Cmp(low) < 0 {
			low = c
		}
		if high == nil || c.Cmp(high) > 0 {
			high = c
		}
	}
	return low, high
}

func (m *model) binds(section, r int) int {
	return m.know(func(t []int) bool { return m.at(t, section, r).binds })
}

func (m *model) first() (section, r int, e api.Errno) {
	for r := m.f.High; r >= m.f.Low; r-- {
		for i := range m.f.Sections {
			if m.binds(i, r) != api.Never {
				return i, r, api.OK
			}
		}
	}
	return 0, 0, api.ErrNone
}

func (m *model) somewhere(truth []int, section int) bool {
	for r := m.f.Low; r <= m.f.High; r++ {
		if m.at(truth, section, r).binds {
			return true
		}
	}
	return false
}

func (m *model) opens() int {
	return m.know(func(t []int) bool {
		for i := range t {
			if m.somewhere(t, i) {
				return false
			}
		}
		return true
	})
}

func (m *model) turns(section int) int {
	return m.know(func(t []int) bool {
		for r := m.f.Low + 1; r <= m.f.High; r++ {
			far, near := m.at(t, section, r).cosine, m.at(t, section, r-1).cosine
			if far != nil && near != nil && far.Cmp(near) < 0 {
				return true
			}
		}
		return false
	})
}

func (m *model) blame() []int {
	var all []int
	for i := range m.f.Sections {
		if m.know(func(t []int) bool { return m.somewhere(t, i) }) == api.Surely {
			all = append(all, i)
		}
	}
	return all
}

func (m *model) closes() int {
	return m.know(func(t []int) bool {
		longest := 0
		for i, n := range t {
			longest = max(longest, m.sides[i][n].arm)
		}
		return m.f.Rod+longest <= m.f.Case
	})
}

// same tells whether a fraction is a number in its lowest terms.
func same(q api.Frac, n *big.Rat) bool {
	return n.Num().IsInt64() && n.Denom().IsInt64() && int64(q.Num) == n.Num().Int64() && int64(q.Den) == n.Denom().Int64()
}

// compare holds all answers about a frame against those of its model.
func compare(t *testing.T, f api.Frame) {
	t.Helper()
	m := newModel(f)
	if e := frames.Check(f); e != api.OK {
		t.Errorf("%v: Check: error %d", f, e)
	}
	for i := range f.Sections {
		for r := f.Low; r <= f.High; r++ {
			d, e := frames.Distance(f, i, r)
			if d != m.distance(i, r) || e != api.OK {
				t.Errorf("%v: Distance of %d at %d = %d, error %d", f, i, r, d, e)
			}
			low, high, e := frames.Cosine(f, i, r)
			least, greatest := m.cosine(i, r)
			if least == nil && (low != (api.Frac{}) || high != (api.Frac{}) || e != api.ErrNone) {
				t.Errorf("%v: Cosine of %d at %d = %v, %v, error %d", f, i, r, low, high, e)
			}
			if least != nil && (!same(low, least) || !same(high, greatest) || e != api.OK) {
				t.Errorf("%v: Cosine of %d at %d = %v, %v, error %d; want %v, %v", f, i, r, low, high, e, least, greatest)
			}
			n, e := frames.Binds(f, i, r)
			wantKnown(t, "Binds", n, e, m.binds(i, r))
		}
		n, e := frames.Turns(f, i)
		wantKnown(t, "Turns", n, e, m.turns(i))
	}
	n, r, e := frames.First(f)
	if i, at, g := m.first(); n != i || r != at || e != g {
		t.Errorf("%v: First = %d, %d, error %d; want %d, %d, error %d", f, n, r, e, i, at, g)
	}
	n, e = frames.Opens(f)
	wantKnown(t, "Opens", n, e, m.opens())
	l, e := frames.Blame(f)
	if !slices.Equal(l, m.blame()) || e != api.OK {
		t.Errorf("%v: Blame = %v, error %d; want %v", f, l, e, m.blame())
	}
	n, e = frames.Closes(f)
	wantKnown(t, "Closes", n, e, m.closes())
}

// random draws frames, always the same ones.
type random struct{ *rand.Rand }

func newRandom(seed uint64) random { return random{rand.New(rand.NewPCG(seed, 1))} }

func (x random) from(low, high int) int { return low + x.IntN(high-low+1) }

func (x random) part() api.Frac {
	den := x.from(1, api.MaxGear)
	return frac(x.from(0, den), den)
}

func (x random) span(low, high, play int) api.Span {
	n := min(api.MaxArm, x.from(low, high))
	return span(n, min(api.MaxArm, n+x.from(0, play)))
}

// ease is mostly small, and often just 0 or 1.
func (x random) ease() api.Frac {
	switch x.IntN(6) {
	case 0:
		return frac(0, x.from(1, api.MaxGear))
	case 1:
		return frac(20, 20)
	case 2:
		return x.part()
	}
	return frac(x.from(0, 3), 20)
}

// sides draws an arm and a stretcher that are lengths like the distance.
func (x random) sides(d, play int) (arm, stretch api.Span) {
	n := max(1, d)
	return x.span(max(1, n/2), n+2, play), x.span(max(1, n/2), n+n/2+2, play)
}

// frame draws a frame with positions up to a greatest one.
func (x random) frame(greatest, travel, play int) api.Frame {
	f := api.Frame{Low: x.from(1, greatest), Ease: x.ease()}
	f.High = min(f.Low+x.from(0, travel), greatest)
	longest, d := 0, f.High
	for i := range x.from(1, api.MaxFolds) {
		s := api.Section{Base: x.from(0, 6) * x.IntN(2), Gear: x.part()}
		if i > 0 {
			d = s.Base + d*s.Gear.Num/s.Gear.Den
		}
		s.Arm, s.Stretch = x.sides(d, play)
		longest = max(longest, s.Arm.High)
		f.Sections = append(f.Sections, s)
	}
	f.Rod = x.from(0, 9)
	f.Case = max(0, f.Rod+longest+x.from(-3, 1))
	return f
}

func TestModelOfSmallFrames(t *testing.T) {
	x := newRandom(1)
	for range 1200 {
		compare(t, x.frame(20, 8, 2))
		if t.Failed() {
			return
		}
	}
}

func TestModelOfOneSection(t *testing.T) {
	x := newRandom(2)
	for range 300 {
		f := x.frame(400, 40, api.MaxPlay)
		f.Sections = f.Sections[:1]
		compare(t, f)
		if t.Failed() {
			return
		}
	}
}

func TestModelOfLargeFrames(t *testing.T) {
	x := newRandom(3)
	for range 60 {
		f := x.frame(api.MaxArm, api.MaxTravel, 1)
		compare(t, f)
		if t.Failed() {
			return
		}
	}
}

// The frames that are drawn have all that can be known in them.
func TestModelMeetsAll(t *testing.T) {
	x := newRandom(1)
	met := map[string]int{}
	names := []string{"", "surely", "never", "perhaps"}
	for range 400 {
		f := x.frame(20, 8, 2)
		m := newModel(f)
		met["opens "+names[m.opens()]]++
		met["closes "+names[m.closes()]]++
		for i := range f.Sections {
			met["turns "+names[m.turns(i)]]++
			met["binds "+names[m.binds(i, f.Low)]]++
		}
	}
	for _, what := range []string{"opens", "closes", "turns", "binds"} {
		for _, name := range names[1:] {
			if met[what+" "+name] < 10 {
				t.Errorf("%s %s: %d", what, name, met[what+" "+name])
			}
		}
	}
}
