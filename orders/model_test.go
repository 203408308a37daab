package orders_test

import (
	"math/rand/v2"
	"slices"
	"testing"

	"ferrule/api"
	"ferrule/orders"
	"ferrule/parts"
)

// model is a shop as the chapter defines it.
type model struct {
	s     api.Shop
	truth bool
	fit   map[[3]int]bool // a make, its slot, and a spare that surely fits it
}

func newModel(s api.Shop) model {
	_, e := parts.Most(s.Workshop, s.Stock, nil)
	m := model{s, e == api.OK, map[[3]int]bool{}}
	for maker, k := range s.Workshop.Makes {
		for slot := range k.Slots {
			for spare := range s.Workshop.Spares {
				n, _ := parts.Fits(s.Workshop, spare, maker, slot)
				m.fit[[3]int{maker, slot, spare}] = n == api.Surely
			}
		}
	}
	return m
}

func (m model) suits(wish, piece int) int {
	w, p := m.s.Wishes[wish], m.s.Pieces[piece]
	colored := false
	for _, c := range w.Colors {
		colored = colored || c == p.Color
	}
	if !colored || p.Size < w.Size.Low || p.Size > w.Size.High {
		return api.Unsuited
	}
	if p.Letter == w.Letter {
		return api.AsItIs
	}
	if p.Letter == 0 {
		return api.Carved
	}
	return api.Unsuited
}

// need is a broken slot of a piece of a plan, and the day by which its spare must be there.
type need struct{ maker, slot, by int }

// needs are those of a plan; not ok if a piece does not suit, or is late on the day 0.
func (m model) needs(plan []int) ([]need, bool) {
	var all []need
	for wish, piece := range plan {
		if piece == none {
			continue
		}
		by := m.s.Wishes[wish].Due
		switch m.suits(wish, piece) {
		case api.Unsuited:
			return nil, false
		case api.Carved:
			by -= m.s.Carve
		}
		if by < 0 {
			return nil, false
		}
		p := m.s.Pieces[piece]
		for _, slot := range p.Broken {
			all = append(all, need{p.Make, slot, by})
		}
	}
	return all, true
}

// heap is spares that are there from a day on.
type heap struct{ spare, day, many int }

func (m model) heaps() []heap {
	var all []heap
	for spare, many := range m.s.Stock {
		all = append(all, heap{spare, 0, many})
	}
	for _, d := range m.s.Deliveries {
		all = append(all, heap{d.Spare, d.Day, d.Many})
	}
	return all
}

func (m model) serves(h heap, n need) bool {
	return h.day <= n.by && m.fit[[3]int{n.maker, n.slot, h.spare}]
}

// gives tells whether each need can be given a spare of its own, by all ways to give them.
func (m model) gives(needs []need, heaps []heap) bool {
	if len(needs) == 0 {
		return true
	}
	for i, h := range heaps {
		if h.many > 0 && m.serves(h, needs[0]) {
			left := slices.Clone(heaps)
			left[i].many--
			if m.gives(needs[1:], left) {
				return true
			}
		}
	}
	return false
}

func (m model) fills(plan []int) bool {
	needs, ok := m.needs(plan)
	return ok && m.truth && m.gives(needs, m.heaps())
}

func (m model) takings(plan []int) int {
	sum := 0
	for wish, piece := range plan {
		if piece != none {
			sum += m.s.Wishes[wish].Price
		}
	}
	return sum
}

// plans are all plans for the first wishes.
func plans(wishes, pieces int) [][]int {
	all := [][]int{nil}
	for range wishes {
		var longer [][]int
		for _, p := range all {
			longer = append(longer, append(slices.Clone(p), none))
			for piece := range pieces {
				if !slices.Contains(p, piece) {
					longer = append(longer, append(slices.Clone(p), piece))
				}
			}
		}
		all = longer
	}
	return all
}

// isWhole tells whether a plan has a piece for each wish.
func isWhole(plan []int) bool { return !slices.Contains(plan, none) }

func (m model) most() int {
	most := 0
	for _, p := range plans(len(m.s.Wishes), len(m.s.Pieces)) {
		if m.fills(p) {
			most = max(most, m.takings(p))
		}
	}
	return most
}

// extra adds one spare after the other to the stock, in all ways, until a whole plan can be filled.
func (m model) extra() int {
	stocks, repairs := [][]int{m.s.Stock}, 0
	for _, p := range m.s.Pieces {
		repairs += len(p.Broken)
	}
	all := slices.DeleteFunc(plans(len(m.s.Wishes), len(m.s.Pieces)), func(p []int) bool { return !isWhole(p) })
	for many := range repairs + 1 {
		for _, stock := range stocks {
			more := m
			more.s.Stock = stock
			if slices.ContainsFunc(all, more.fills) {
				return many
			}
		}
		stocks = grown(stocks)
	}
	return noPlan
}

// grown are all stocks with one spare more than one of these.
func grown(stocks [][]int) [][]int {
	var all [][]int
	for _, stock := range stocks {
		for spare := range stock {
			more := slices.Clone(stock)
			more[spare]++
			if !slices.ContainsFunc(all, func(o []int) bool { return slices.Equal(o, more) }) {
				all = append(all, more)
			}
		}
	}
	return all
}

// compare holds all that is said of a shop against the model.
func compare(t *testing.T, s api.Shop) {
	t.Helper()
	m := newModel(s)
	m.compareSuits(t)
	if m.truth {
		m.compareCan(t)
		m.comparePlans(t)
		m.compareMost(t)
	} else {
		wantErrors(t, "no truth", append(ofAll(s, asked{}), ofPlan(s, asked{plan: slices.Repeat([]int{none}, len(s.Wishes))})...), api.ErrNone)
	}
	if t.Failed() {
		t.Errorf("%+v", s)
	}
}

func (m model) compareSuits(t *testing.T) {
	t.Helper()
	for wish := range m.s.Wishes {
		for piece := range m.s.Pieces {
			if n, e := orders.Suits(m.s, wish, piece); n != m.suits(wish, piece) || e != api.OK {
				t.Errorf("Suits of %d, %d = %d, error %d; want %d", wish, piece, n, e, m.suits(wish, piece))
			}
		}
	}
}

// alone is a plan with a piece for one wish.
func alone(wishes, wish, piece int) []int {
	plan := slices.Repeat([]int{none}, wishes)
	plan[wish] = piece
	return plan
}

func (m model) compareCan(t *testing.T) {
	t.Helper()
	for wish := range m.s.Wishes {
		var want []int
		for piece := range m.s.Pieces {
			if m.fills(alone(len(m.s.Wishes), wish, piece)) {
				want = append(want, piece)
			}
		}
		if l, e := orders.Can(m.s, wish); !slices.Equal(l, want) || e != api.OK {
			t.Errorf("Can of %d = %v, error %d; want %v", wish, l, e, want)
		}
	}
}

// comparePlans looks at some of the plans only, as a shop can have many.
func (m model) comparePlans(t *testing.T) {
	t.Helper()
	all := plans(len(m.s.Wishes), len(m.s.Pieces))
	for i := 0; i < len(all); i += 1 + len(all)/60 {
		want, we := m.takings(all[i]), api.OK
		if !m.fills(all[i]) {
			want, we = 0, api.ErrNone
		}
		if n, e := orders.Takes(m.s, all[i]); n != want || e != we {
			t.Errorf("Takes of %v = %d, error %d; want %d, error %d", all[i], n, e, want, we)
		}
	}
}

func (m model) compareMost(t *testing.T) {
	t.Helper()
	want := m.most()
	if n, e := orders.Most(m.s); n != want || e != api.OK {
		t.Errorf("Most = %d, error %d; want %d", n, e, want)
	}
	p, e := orders.Plan(m.s)
	if e != api.OK || len(p) != len(m.s.Wishes) || !m.fills(p) || m.takings(p) != want {
		t.Errorf("Plan = %v, error %d; want one that takes %d", p, e, want)
	}
	for d := range m.s.Deliveries {
		less := m
		less.s.Deliveries = slices.Delete(slices.Clone(m.s.Deliveries), d, d+1)
		if n, e := orders.Without(m.s, d); n != less.most() || e != api.OK {
			t.Errorf("Without of %d = %d, error %d; want %d", d, n, e, less.most())
		}
	}
	extra, we := m.extra(), api.OK
	if extra == noPlan {
		extra, we = 0, api.ErrNone
	}
	if n, e := orders.Extra(m.s); n != extra || e != we {
		t.Errorf("Extra = %d, error %d; want %d, error %d", n, e, extra, we)
	}
}

// random draws shops, always the same ones.
type random struct{ *rand.Rand }

func newRandom(seed uint64) random { return random{rand.New(rand.NewPCG(seed, 8))} }

func (x random) from(low, high int) int { return low + x.IntN(high-low+1) }

// size is how many shops are drawn, and how large they are at most: spares,
// slots of a make, pieces, wishes, deliveries, broken slots of a piece, the
// numbers of colours, sizes and letters, days, prices, and spares of a kind.
type size struct {
	many, spares, slots, pieces, wishes, deliveries, broken, marks, days, prices, stock int
}

func sizes() map[string]size {
	return map[string]size{
		"small":           {6000, 3, 2, 3, 2, 2, 1, 2, 3, 9, 1},
		"many wishes":     {500, 3, 2, 3, 4, 2, 1, 1, 3, 4, 1},
		"many pieces":     {1500, 3, 2, 5, 2, 2, 1, 2, 3, 9, 1},
		"many deliveries": {3000, 2, 2, 3, 2, 4, 2, 1, 4, 9, 1},
		"many repairs":    {3000, 3, 4, 2, 2, 2, 4, 1, 2, 9, 2},
		"any price":       {2000, 2, 2, 3, 3, 1, 1, 1, 2, api.MaxPrice, 1},
		"many marks":      {4000, 2, 1, 4, 2, 1, 1, 4, 3, 9, 2},
	}
}

// large are shops with as many of all as there can be, or nearly so.
func large() map[string]size {
	return map[string]size{
		"large":           {30, api.MaxSpares, 4, 8, 6, 8, 4, 1, 9, 20, 4},
		"large and clear": {30, api.MaxSpares, 4, 8, 6, 8, 2, 2, 9, 20, 1},
		"large and dear":  {30, api.MaxSpares, 4, 8, 6, 8, 3, 1, 3, api.MaxPrice, 1},
	}
}

func (x random) spare() api.Spare {
	low := x.IntN(5)
	return spare(x.IntN(7)/6, x.IntN(2), low, low+x.IntN(3))
}

// slotFor draws a slot that one of the spares fits, or nearly so.
func (x random) slotFor(w api.Workshop) api.Slot {
	low := x.IntN(4)
	s := slot(x.IntN(7)/6, low, low+x.IntN(5), 0, 1)
	if len(w.Spares) > 0 && x.IntN(4) > 0 {
		p := w.Spares[x.IntN(len(w.Spares))]
		s.Kind, s.Length = p.Kind, span(max(0, p.Length.Low-x.IntN(3)), max(p.Length.Low, p.Length.High-w.Cut+x.from(-1, 1)))
	}
	if x.IntN(3) == 0 {
		s.Sections = []int{x.IntN(2)}
	}
	return s
}

func (x random) workshop(z size) api.Workshop {
	w := api.Workshop{Cut: x.IntN(3)}
	for range x.from(min(1, x.IntN(20)), z.spares) {
		w.Spares = append(w.Spares, x.spare())
	}
	for range x.from(1, 3) {
		var m api.Make
		for range x.from(1, z.slots) {
			m.Slots = append(m.Slots, x.slotFor(w))
		}
		w.Makes = append(w.Makes, m)
	}
	for range x.IntN(4) {
		w = x.tried(w)
	}
	return w
}

// tried draws a trial more that does not clash; most of them such that there is a truth.
func (x random) tried(w api.Workshop) api.Workshop {
	if len(w.Spares) == 0 {
		return w
	}
	t := trial(x.IntN(len(w.Spares)), x.IntN(len(w.Makes)), 0, x.IntN(2))
	t.Slot = x.IntN(len(w.Makes[t.Make].Slots))
	n, _ := parts.Fits(w, t.Spare, t.Make, t.Slot)
	if n != api.Perhaps && x.IntN(30) > 0 {
		return w
	}
	more := w
	more.Table = append(slices.Clone(w.Table), t)
	if parts.Check(more) != api.OK {
		return w
	}
	return more
}

func (x random) mark(z size) int { return x.IntN(z.marks) }

func (x random) piece(z size, w api.Workshop) api.Piece {
	p := piece(x.mark(z), x.mark(z), x.IntN(2)*x.mark(z), x.IntN(len(w.Makes)))
	for slot := range w.Makes[p.Make].Slots {
		if len(p.Broken) < z.broken && x.IntN(4) > 0 {
			p.Broken = append(p.Broken, slot)
		}
	}
	return p
}

func (x random) wish(z size) api.Wish {
	w := wish(span(0, x.mark(z)), x.IntN(2)*x.from(0, z.marks), x.IntN(z.days), x.IntN(z.prices+1))
	w.Size.Low = x.IntN(w.Size.High + 1)
	first := x.mark(z)
	for color := range z.marks {
		if color == first || x.IntN(2) == 0 {
			w.Colors = append(w.Colors, color)
		}
	}
	return w
}

func (x random) delivery(z size, w api.Workshop) api.Delivery {
	return delivery(x.IntN(z.days), x.IntN(len(w.Spares)), x.from(1, max(1, z.stock)))
}

func (x random) shop(z size) api.Shop {
	s := api.Shop{Workshop: x.workshop(z), Carve: x.IntN(z.days)}
	for range s.Workshop.Spares {
		s.Stock = append(s.Stock, x.IntN(z.stock+1))
	}
	for range x.from(z.pieces/2, z.pieces) {
		s.Pieces = append(s.Pieces, x.piece(z, s.Workshop))
	}
	for range x.from(z.wishes/2, z.wishes) {
		s.Wishes = append(s.Wishes, x.wish(z))
	}
	for range x.from(0, z.deliveries) {
		if len(s.Stock) > 0 {
			s.Deliveries = append(s.Deliveries, x.delivery(z, s.Workshop))
		}
	}
	return s
}

func TestModel(t *testing.T) {
	for name, z := range sizes() {
		t.Run(name, func(t *testing.T) {
			x := newRandom(1)
			for range z.many {
				compare(t, x.shop(z))
				if t.Failed() {
					return
				}
			}
		})
	}
}

// What the tests say of single shops is so, if there are not too many ways to fill them.
func TestModelOfKnowns(t *testing.T) {
	for _, x := range offereds() {
		compare(t, x.s)
	}
	for _, x := range planneds() {
		m := newModel(x.s)
		if needs, _ := m.needs(x.plan); len(needs) < 9 && m.fills(x.plan) != (x.want != noPlan) {
			t.Errorf("%+v", x)
		}
	}
	for _, x := range bests() {
		if len(x.s.Wishes) < 4 {
			compare(t, x.s)
		}
	}
}

// count counts what is so.
func count(met map[string]int, all map[string]bool) {
	for name, is := range all {
		if is {
			met[name]++
		}
	}
}

// wantMet wants that each of these was met a number of times at the least.
func wantMet(t *testing.T, met map[string]int, least int, names ...string) {
	t.Helper()
	for _, name := range names {
		if met[name] < least {
			t.Errorf("%s: %d", name, met[name])
		}
	}
}

// lacks is how many needs stay without a spare at the least, by Hall's theorem:
// of some heaps, the needs that only these serve, less the spares in them.
func (m model) lacks(needs []need, heaps []heap) int {
	served := make([]int, len(needs)) // the bits of the heaps that serve each need
	for i, n := range needs {
		for k, h := range heaps {
			if m.serves(h, n) {
				served[i] |= 1 << k
			}
		}
	}
	most := 0
	for set := range 1 << len(heaps) {
		lack := 0
		for _, by := range served {
			if by&^set == 0 {
				lack++
			}
		}
		for k, h := range heaps {
			if set>>k&1 == 1 {
				lack -= h.many
			}
		}
		most = max(most, lack)
	}
	return most
}

// hopeless tells whether a need is of a slot that no spare surely fits.
func (m model) hopeless(needs []need) bool {
	return slices.ContainsFunc(needs, func(n need) bool {
		for spare := range m.s.Stock {
			if m.fit[[3]int{n.maker, n.slot, spare}] {
				return false
			}
		}
		return true
	})
}

// plan draws a plan, most of its pieces such that they suit.
func (x random) plan(m model) []int {
	var plan []int
	for wish := range m.s.Wishes {
		piece := none
		for range 3 {
			if n := x.IntN(len(m.s.Pieces)); piece == none && !slices.Contains(plan, n) && (m.suits(wish, n) != api.Unsuited || x.IntN(20) == 0) {
				piece = n
			}
		}
		plan = append(plan, piece)
	}
	return plan
}

// Plans of any size can be filled just if nothing lacks.
func TestModelOfLargePlans(t *testing.T) {
	met := map[bool]int{}
	for name, z := range large() {
		z.deliveries = 4 // not to look at too many sets of heaps
		t.Run(name, func(t *testing.T) {
			x := newRandom(2)
			for range 10 * z.many {
				m := newModel(x.shop(z))
				for range 3 {
					plan := x.plan(m)
					needs, ok := m.needs(plan)
					fills := m.truth && ok && m.lacks(needs, m.heaps()) == 0
					if n, e := orders.Takes(m.s, plan); (e == api.OK) != fills || fills && n != m.takings(plan) || !fills && (n != 0 || e != api.ErrNone) {
						t.Fatalf("Takes of %v = %d, error %d; it fills: %v; %+v", plan, n, e, fills, m.s)
					}
					if len(needs) > 4 {
						met[fills]++
					}
				}
			}
		})
	}
	if met[true] < 20 || met[false] < 20 {
		t.Errorf("%v", met)
	}
}

// counted is what Most and Extra are, as by the model what plans lack: each spare
// that is bought helps one repair, so Extra is the least that a whole plan
// lacks, of those without a slot that is hopeless.
type counted struct{ most, extra, repairs int }

func (m model) counted() counted {
	c := counted{extra: noPlan}
	for _, p := range plans(len(m.s.Wishes), len(m.s.Pieces)) {
		needs, ok := m.needs(p)
		if !ok || m.hopeless(needs) {
			continue
		}
		lacks := m.lacks(needs, m.heaps())
		if lacks == 0 {
			c.most = max(c.most, m.takings(p))
		}
		if isWhole(p) && (c.extra == noPlan || lacks < c.extra) {
			c.extra, c.repairs = lacks, len(needs)
		}
	}
	return c
}

func TestModelOfManyRepairs(t *testing.T) {
	met := map[string]int{}
	z := size{3000, 3, 4, 4, 4, 4, 4, 1, 4, 9, 2}
	x := newRandom(3)
	for range z.many {
		m := newModel(x.shop(z))
		if !m.truth {
			continue
		}
		want := m.counted()
		if n, e := orders.Most(m.s); n != want.most || e != api.OK {
			t.Fatalf("Most = %d, error %d; want %d; %+v", n, e, want.most, m.s)
		}
		n, e := orders.Extra(m.s)
		if want.extra == noPlan && (n != 0 || e != api.ErrNone) || want.extra != noPlan && (n != want.extra || e != api.OK) {
			t.Fatalf("Extra = %d, error %d; want %d; %+v", n, e, want.extra, m.s)
		}
		count(met, map[string]bool{
			"none": want.extra == noPlan, "nothing": want.extra == 0, "some": want.extra > 0, "many": want.extra > 3,
			"of many repairs": want.extra > 0 && want.repairs > 6,
		})
	}
	wantMet(t, met, 20, "none", "nothing", "some", "many", "of many repairs")
}

// The shops that are drawn have all that can be in them.
func TestModelMeetsAll(t *testing.T) {
	met := map[string]int{}
	for _, z := range sizes() {
		x := newRandom(1)
		for range min(z.many, 1000) {
			m := newModel(x.shop(z))
			if !m.truth {
				met["no truth"]++
				continue
			}
			meetPieces(met, m)
			meetPlans(met, m)
			meetExtra(met, m)
		}
	}
	wantMet(t, met, 20,
		"no truth", "unsuited", "as it is", "carved", "late", "hopeless", "perhaps", "tried",
		"nothing can be filled", "all can be filled", "more than in order", "more with other spares", "less without", "as much without",
		"no extra", "some extra", "no number of extra", "extra for what is due before a delivery",
	)
}

func meetPieces(met map[string]int, m model) {
	for wish := range m.s.Wishes {
		for piece := range m.s.Pieces {
			how := m.suits(wish, piece)
			needs, ok := m.needs(alone(len(m.s.Wishes), wish, piece))
			count(met, map[string]bool{
				"unsuited": how == api.Unsuited, "as it is": how == api.AsItIs, "carved": how == api.Carved,
				"late": how != api.Unsuited && !ok, "hopeless": ok && m.hopeless(needs),
			})
		}
	}
	for _, p := range m.s.Pieces {
		for _, slot := range p.Broken {
			for spare := range m.s.Stock {
				was := m.s.Workshop
				was.Table = nil
				n, _ := parts.Fits(m.s.Workshop, spare, p.Make, slot)
				old, _ := parts.Fits(was, spare, p.Make, slot)
				count(met, map[string]bool{"perhaps": n == api.Perhaps, "tried": n == api.Surely && old == api.Perhaps})
			}
		}
	}
}

// inOrder takes for each wish, in order, the first piece with which the plan can still be filled.
func inOrder(m model) []int {
	plan := slices.Repeat([]int{none}, len(m.s.Wishes))
	for wish := range plan {
		for piece := range m.s.Pieces {
			if slices.Contains(plan, piece) {
				continue
			}
			if plan[wish] = piece; m.fills(plan) {
				break
			}
			plan[wish] = none
		}
	}
	return plan
}

// givesInOrder tells whether needs can be given spares if each takes the first that serves it.
func (m model) givesInOrder(needs []need) bool {
	heaps := m.heaps()
	for _, n := range needs {
		i := slices.IndexFunc(heaps, func(h heap) bool { return h.many > 0 && m.serves(h, n) })
		if i < 0 {
			return false
		}
		heaps[i].many--
	}
	return true
}

func meetPlans(met map[string]int, m model) {
	most, sum := m.most(), 0
	for _, w := range m.s.Wishes {
		sum += w.Price
	}
	plan, _ := orders.Plan(m.s)
	needs, _ := m.needs(plan)
	count(met, map[string]bool{
		"nothing can be filled": most == 0 && sum > 0, "all can be filled": most == sum && sum > 0,
		"more than in order": most > m.takings(inOrder(m)), "more with other spares": !m.givesInOrder(needs),
	})
	for d := range m.s.Deliveries {
		n, _ := orders.Without(m.s, d)
		count(met, map[string]bool{"less without": n < most, "as much without": n == most && most > 0})
	}
}

func meetExtra(met map[string]int, m model) {
	extra := m.extra()
	early := m
	early.s.Deliveries = slices.Clone(m.s.Deliveries)
	for i := range early.s.Deliveries {
		early.s.Deliveries[i].Day = 0
	}
	count(met, map[string]bool{
		"no extra": extra == 0 && len(m.s.Wishes) > 0, "some extra": extra > 0, "no number of extra": extra == noPlan,
		"extra for what is due before a delivery": extra > early.extra() && early.extra() != noPlan,
	})
}
