package cloth_test

import (
	"math/rand/v2"
	"slices"
	"testing"

	"ferrule/api"
	"ferrule/cloth"
)

// model is a dome as the chapter defines it, with all of its truths: for each
// of them the numbers of all bolts.
type model struct {
	d      api.Dome
	truths [][]int
	spans  map[int]api.Span // the rounds of a width that are known already
}

func newModel(d api.Dome) *model {
	m := &model{d: d, truths: [][]int{nil}, spans: map[int]api.Span{}}
	for _, b := range d.Bolts {
		var truths [][]int
		for _, t := range m.truths {
			for s := b.Stretch.Low; s <= b.Stretch.High; s++ {
				if untrue(b, s) <= b.Wrong {
					truths = append(truths, append(slices.Clone(t), s))
				}
			}
		}
		m.truths = truths
	}
	return m
}

func pulled(length, stretch int) int { return length * (1000 + stretch) / 1000 }

func in(s api.Span, n int) bool { return s.Low <= n && n <= s.High }

// untrue is how many strips of a bolt are not true of a number.
func untrue(b api.Bolt, stretch int) int {
	many := 0
	for _, s := range b.Strips {
		if !in(s.Pulled, pulled(s.Long, stretch)) {
			many++
		}
	}
	return many
}

func (m *model) stretches(bolt int) []int {
	var all []int
	for _, t := range m.truths {
		all = append(all, t[bolt])
	}
	slices.Sort(all)
	return slices.Compact(all)
}

func (m *model) fewest(bolt int) int {
	b := m.d.Bolts[bolt]
	fewest := len(b.Strips)
	for s := b.Stretch.Low; s <= b.Stretch.High; s++ {
		fewest = min(fewest, untrue(b, s))
	}
	return fewest
}

// round is the round of gores of a width in a truth.
func round(d api.Dome, truth []int, width int) int {
	sum := 0
	for _, bolt := range d.Gores {
		sum += pulled(width-2*d.Loss, truth[bolt])
	}
	return sum
}

func (m *model) round(width int) api.Span {
	if s, ok := m.spans[width]; ok {
		return s
	}
	s := span(round(m.d, m.truths[0], width), 0)
	for _, t := range m.truths {
		n := round(m.d, t, width)
		s = span(min(s.Low, n), max(s.High, n))
	}
	m.spans[width] = s
	return s
}

func (m *model) tight(row int) int {
	many := 0
	for _, t := range m.truths {
		if in(m.d.Rounds[row], round(m.d, t, m.d.Widths[row])) {
			many++
		}
	}
	switch many {
	case 0:
		return api.Never
	case len(m.truths):
		return api.Surely
	}
	return api.Perhaps
}

func (m *model) surely(row, width int) bool {
	s := m.round(width)
	return in(m.d.Rounds[row], s.Low) && in(m.d.Rounds[row], s.High)
}

// widths are all with which a row is surely tight.
func (m *model) widths(row int) []int {
	var all []int
	for width := 2 * m.d.Loss; width <= api.MaxWidth; width++ {
		if m.surely(row, width) {
			all = append(all, width)
		}
	}
	return all
}

// least goes through all widths of all rows: for each width of a row it keeps
// the least sum of the rows up to it.
func (m *model) least() (int, api.Errno) {
	sums := map[int]int{}
	for _, width := range m.widths(0) {
		sums[width] = width
	}
	for row := 1; row < len(m.d.Rounds); row++ {
		next := map[int]int{}
		for _, width := range m.widths(row) {
			for before, sum := range sums {
				old, ok := next[width]
				if max(before-width, width-before) <= m.d.Slope && (!ok || sum+width < old) {
					next[width] = sum + width
				}
			}
		}
		sums = next
	}
	if len(sums) == 0 {
		return 0, api.ErrNone
	}
	least := api.MaxCurve * api.MaxWidth
	for _, sum := range sums {
		least = min(least, sum)
	}
	return least, api.OK
}

// fits tells whether widths are surely tight, with neighbours that differ by at most Slope.
func (m *model) fits(widths []int) bool {
	for row, width := range widths {
		if !in(span(2*m.d.Loss, api.MaxWidth), width) || !m.surely(row, width) {
			return false
		}
		if row > 0 && max(width-widths[row-1], widths[row-1]-width) > m.d.Slope {
			return false
		}
	}
	return len(widths) == len(m.d.Rounds)
}

func (m *model) cut(row int) (api.Span, api.Errno) {
	all := m.widths(row)
	if len(all) == 0 {
		return api.Span{}, api.ErrNone
	}
	return span(all[0], all[len(all)-1]), api.OK
}

func (m *model) loose() []int {
	var all []int
	for row := range m.d.Rounds {
		if m.tight(row) != api.Surely {
			all = append(all, row)
		}
	}
	return all
}

// compare holds all answers about a dome against those of its model.
func compare(t *testing.T, d api.Dome) {
	t.Helper()
	m := newModel(d)
	if e := cloth.Check(d); e != api.OK {
		t.Errorf("%v: Check: error %d", d, e)
	}
	for bolt := range d.Bolts {
		n, e := cloth.Fewest(d, bolt)
		if n != m.fewest(bolt) || e != api.OK {
			t.Errorf("%v: Fewest of %d = %d, error %d; want %d", d, bolt, n, e, m.fewest(bolt))
		}
	}
	if len(m.truths) == 0 {
		wantErrors(t, "without a truth", slices.Concat(ofBolts(d, 0)[:1], ofRows(d, 0), ofDome(d)), api.ErrNone)
		return
	}
	for bolt := range d.Bolts {
		l, e := cloth.Stretches(d, bolt)
		if !slices.Equal(l, m.stretches(bolt)) || e != api.OK {
			t.Errorf("%v: Stretches of %d = %v, error %d; want %v", d, bolt, l, e, m.stretches(bolt))
		}
	}
	for row := range d.Rounds {
		compareRow(t, m, row)
	}
	l, e := cloth.Loose(d)
	if !slices.Equal(l, m.loose()) || e != api.OK {
		t.Errorf("%v: Loose = %v, error %d; want %v", d, l, e, m.loose())
	}
	compareCurve(t, m)
}

func compareRow(t *testing.T, m *model, row int) {
	t.Helper()
	s, e := cloth.Round(m.d, row)
	if want := m.round(m.d.Widths[row]); s != want || e != api.OK {
		t.Errorf("%v: Round of %d = %v, error %d; want %v", m.d, row, s, e, want)
	}
	n, e := cloth.Tight(m.d, row)
	if n != m.tight(row) || e != api.OK {
		t.Errorf("%v: Tight of %d = %d, error %d; want %d", m.d, row, n, e, m.tight(row))
	}
	s, e = cloth.Cut(m.d, row)
	if want, g := m.cut(row); s != want || e != g {
		t.Errorf("%v: Cut of %d = %v, error %d; want %v, error %d", m.d, row, s, e, want, g)
	}
}

func compareCurve(t *testing.T, m *model) {
	t.Helper()
	n, e := cloth.Least(m.d)
	want, g := m.least()
	if n != want || e != g {
		t.Errorf("%v: Least = %d, error %d; want %d, error %d", m.d, n, e, want, g)
	}
	l, e := cloth.Curve(m.d)
	sum := 0
	for _, width := range l {
		sum += width
	}
	if e != g || sum != want || e == api.OK && !m.fits(l) {
		t.Errorf("%v: Curve = %v, error %d; want the sum %d, error %d", m.d, l, e, want, g)
	}
}

// random draws domes, always the same ones.
type random struct{ *rand.Rand }

func newRandom(seed uint64) random { return random{rand.New(rand.NewPCG(seed, 2))} }

func (x random) from(low, high int) int { return low + x.IntN(high-low+1) }

// around draws a span that mostly has a number in it.
func (x random) around(n, play, greatest int) api.Span {
	low := n - x.from(0, play)
	if x.IntN(5) == 0 {
		low = n + x.from(1, 2)
	}
	low = min(max(0, low), greatest)
	return span(low, min(max(low, n+x.from(-1, play)), greatest))
}

// strip draws a strip that is mostly true of a number.
func (x random) strip(stretch int) api.Strip {
	long := x.from(1, api.MaxWidth)
	return api.Strip{Long: long, Pulled: x.around(pulled(long, stretch), 3, 2*api.MaxWidth)}
}

// bolt draws one with a number, from which others differ by at most play.
func (x random) bolt(play int) (b api.Bolt, stretch int) {
	stretch = x.from(0, api.MaxStretch)
	b.Stretch = span(max(0, stretch-x.from(0, play)), min(stretch+x.from(0, play), api.MaxStretch))
	for range x.IntN(5) {
		b.Strips = append(b.Strips, x.strip(stretch))
	}
	b.Wrong = x.from(0, api.MaxFalse)
	return b, stretch
}

// dome draws a dome whose widths and rounds are about those of a curve.
func (x random) dome(bolts, play, widest int) api.Dome {
	d := api.Dome{Loss: x.from(0, api.MaxLoss), Slope: x.from(0, 9)}
	var truth []int
	for range x.from(1, bolts) {
		b, stretch := x.bolt(play)
		d.Bolts, truth = append(d.Bolts, b), append(truth, stretch)
	}
	for range x.from(api.MinGores, 6+10*x.IntN(2)) {
		d.Gores = append(d.Gores, x.IntN(len(d.Bolts)))
	}
	width := x.from(2*d.Loss, 2*d.Loss+widest)
	for range x.from(1, 4) {
		width = min(max(2*d.Loss, width+x.from(-12, 12)), api.MaxWidth)
		cut := min(max(2*d.Loss, width+x.from(-2, 2)), api.MaxWidth)
		d.Widths = append(d.Widths, cut)
		d.Rounds = append(d.Rounds, x.around(round(d, truth, width), 3+len(d.Gores)*x.IntN(8), api.MaxRound))
	}
	return d
}

// size is how many domes are drawn, with how many bolts at most, how much these can stretch, and how wide they are.
type size struct{ many, bolts, play, widest int }

func sizes() map[string]size {
	return map[string]size{
		"small":      {1000, 3, 1, 60},
		"wide":       {400, 2, 4, api.MaxWidth - 2*api.MaxLoss},
		"one bolt":   {300, 1, api.MaxStretch, 300},
		"four bolts": {150, 4, 1, 400},
	}
}

func TestModel(t *testing.T) {
	for name, s := range sizes() {
		t.Run(name, func(t *testing.T) {
			x := newRandom(1)
			for range s.many {
				compare(t, x.dome(s.bolts, s.play, s.widest))
				if t.Failed() {
					return
				}
			}
		})
	}
}

// The domes that are drawn have all that can be known in them.
func TestModelMeetsAll(t *testing.T) {
	met := map[string]int{}
	for _, s := range sizes() {
		x := newRandom(1)
		for range s.many {
			m := newModel(x.dome(s.bolts, s.play, s.widest))
			if len(m.truths) == 0 {
				met["no truth"]++
				continue
			}
			for row := range m.d.Rounds {
				meetRow(met, m, row)
			}
			meetCurve(met, m)
		}
	}
	for _, name := range []string{
		"no truth", "surely", "never", "perhaps", "never between rounds", "no cut", "one width", "widths",
		"no curve with all cuts", "a curve above its cuts", "a curve of cuts",
	} {
		if met[name] < 10 {
			t.Errorf("%s: %d", name, met[name])
		}
	}
}

func meetRow(met map[string]int, m *model, row int) {
	n, s := m.tight(row), m.round(m.d.Widths[row])
	met[[]string{"", "surely", "never", "perhaps"}[n]]++
	if n == api.Never && s.Low <= m.d.Rounds[row].High && m.d.Rounds[row].Low <= s.High {
		met["never between rounds"]++
	}
	switch cut, e := m.cut(row); {
	case e != api.OK:
		met["no cut"]++
	case cut.Low == cut.High:
		met["one width"]++
	default:
		met["widths"]++
	}
}

func meetCurve(met map[string]int, m *model) {
	sum := 0
	for row := range m.d.Rounds {
		cut, e := m.cut(row)
		if e != api.OK {
			return
		}
		sum += cut.Low
	}
	switch least, e := m.least(); {
	case e != api.OK:
		met["no curve with all cuts"]++
	case least > sum:
		met["a curve above its cuts"]++
	case len(m.d.Rounds) > 1:
		met["a curve of cuts"]++
	}
}
