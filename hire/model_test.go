package hire_test

import (
	"math/rand/v2"
	"slices"
	"testing"

	"ferrule/api"
	"ferrule/hire"
)

// model is a counter as the chapter defines it, with all its truths.
type model struct {
	c      api.Counter
	slips  []api.Slip // those that count
	truths []truth
	open   []int // how many minutes are not closed, from the least minute on, before each
}

// truth is by how many minutes each watch is behind, and the minute of each slip that counts.
type truth struct {
	watches [api.MaxClerks]int
	minutes [api.MaxSlips]int
}

// leastMinute is the least minute that a slip can have.
const leastMinute = -api.MaxSlow

func newModel(c api.Counter) model {
	m := model{c: c}
	for i, s := range c.Slips {
		if !slices.Contains(c.Slips[:i], s) && !slices.Contains(c.Voided, s.Id) {
			m.slips = append(m.slips, s)
		}
	}
	m.open = []int{0}
	for minute := leastMinute; minute <= api.MaxAt+api.MaxSlow; minute++ {
		many := m.open[len(m.open)-1]
		if !closed(c, minute) {
			many++
		}
		m.open = append(m.open, many)
	}
	lows, highs := [api.MaxClerks]int{}, [api.MaxClerks]int{}
	for i, s := range c.Clerks {
		lows[i], highs[i] = s.Low, s.High
	}
	var w [api.MaxClerks]int
	for w[0] = lows[0]; w[0] <= highs[0]; w[0]++ {
		for w[1] = lows[1]; w[1] <= highs[1]; w[1]++ {
			for w[2] = lows[2]; w[2] <= highs[2]; w[2]++ {
				if x := m.truth(w); m.isTruth(x) {
					m.truths = append(m.truths, x)
				}
			}
		}
	}
	return m
}

func closed(c api.Counter, minute int) bool {
	return slices.ContainsFunc(c.Closed, func(s api.Span) bool { return s.Low <= minute && minute <= s.High })
}

func (m model) truth(watches [api.MaxClerks]int) truth {
	x := truth{watches: watches}
	for i, s := range m.slips {
		x.minutes[i] = s.At + watches[s.Clerk]
	}
	return x
}

// isTruth counts for each slip those of its umbrella that are before it: if they
// are by turns, these are an even number just if the umbrella goes out.
func (m model) isTruth(x truth) bool {
	for i, s := range m.slips {
		before := 0
		for k, other := range m.slips {
			if k == i || other.Umbrella != s.Umbrella {
				continue
			}
			if x.minutes[k] == x.minutes[i] {
				return false
			}
			if x.minutes[k] < x.minutes[i] {
				before++
			}
		}
		if (s.Kind == api.Lent) != (before%2 == 0) {
			return false
		}
	}
	return true
}

// next is the next slip of the umbrella of a slip, or none.
func (m model) next(x truth, slip int) int {
	next := none
	for k, other := range m.slips {
		if other.Umbrella == m.slips[slip].Umbrella && x.minutes[k] > x.minutes[slip] && (next == none || x.minutes[k] < x.minutes[next]) {
			next = k
		}
	}
	return next
}

// none is no slip.
const none = -1

func (m model) minutes(from, to int) int { return m.open[to-leastMinute] - m.open[from-leastMinute] }

func (m model) lasts(x truth, slip int) (int, bool) {
	next := m.next(x, slip)
	if next == none {
		return 0, false
	}
	return m.minutes(x.minutes[slip], x.minutes[next]), true
}

func (m model) fee(x truth, slip int) (int, bool) {
	lasts, ok := m.lasts(x, slip)
	t := m.c.Tariff
	if !ok {
		return 0, false
	}
	if lasts >= t.Lost {
		return t.Value, true
	}
	fee := 0
	for begins := t.Free; begins < lasts; begins += t.Unit {
		fee += t.Price
	}
	return min(fee, t.Most), true
}

func (m model) owes(x truth, guest int) int {
	sum := 0
	for i, s := range m.slips {
		if fee, ok := m.fee(x, i); s.Kind == api.Lent && s.Guest == guest && ok {
			sum += fee
		}
	}
	return sum
}

// last is the last slip of an umbrella up to a minute, or none.
func (m model) last(x truth, umbrella, minute int) int {
	last := none
	for i, s := range m.slips {
		if s.Umbrella == umbrella && x.minutes[i] <= minute && (last == none || x.minutes[i] > x.minutes[last]) {
			last = i
		}
	}
	return last
}

// with is the guest who has an umbrella after a minute, or -1.
func (m model) with(x truth, umbrella, minute int) int {
	last := m.last(x, umbrella, minute)
	if last == none || m.slips[last].Kind == api.Returned {
		return -1
	}
	return m.slips[last].Guest
}

func (m model) held(x truth, minute int) int {
	sum := 0
	for umbrella := range 10 {
		if m.with(x, umbrella, minute) >= 0 {
			sum += m.c.Tariff.Pledge
		}
	}
	return sum
}

func (m model) missing(x truth, umbrella, minute int) bool {
	return m.with(x, umbrella, minute) >= 0 &&
		m.minutes(x.minutes[m.last(x, umbrella, minute)], minute) >= m.c.Tariff.Lost
}

// spanOf is the span of what is asked of all truths, where there is something; not ok if there is nothing.
func (m model) spanOf(ask func(x truth) (int, bool)) (api.Span, bool) {
	var all []int
	for _, x := range m.truths {
		if n, ok := ask(x); ok {
			all = append(all, n)
		}
	}
	if len(all) == 0 {
		return api.Span{}, false
	}
	return span(slices.Min(all), slices.Max(all)), true
}

func always(ask func(x truth) int) func(x truth) (int, bool) {
	return func(x truth) (int, bool) { return ask(x), true }
}

// where are all with whom an umbrella is in some truth.
func (m model) where(umbrella, minute int) []int {
	var all []int
	for _, x := range m.truths {
		if guest := m.with(x, umbrella, minute); !slices.Contains(all, guest) {
			all = append(all, guest)
		}
	}
	slices.Sort(all)
	return all
}

func (m model) missings(minute int) (sure, may []int) {
	for umbrella := range 10 {
		times := 0
		for _, x := range m.truths {
			if m.missing(x, umbrella, minute) {
				times++
			}
		}
		if times == len(m.truths) {
			sure = append(sure, umbrella)
		}
		if times > 0 {
			may = append(may, umbrella)
		}
	}
	return sure, may
}

// umbrellas are those of slips that count, and one of none.
func (m model) umbrellas() []int {
	var all []int
	for _, s := range m.slips {
		all = append(all, s.Umbrella)
	}
	for umbrella := range 10 {
		if !slices.Contains(all, umbrella) {
			all = append(all, umbrella)
			break
		}
	}
	slices.Sort(all)
	return slices.Compact(all)
}

// moments are some minutes: those that watches showed, some before and behind them, and the ends.
func (m model) moments() []int {
	all := []int{0, api.MaxAt}
	for i, s := range m.slips {
		for _, n := range []int{s.At, s.At + i%5 - 2, s.At + m.c.Clerks[s.Clerk].Low, s.At + m.c.Clerks[s.Clerk].High, s.At + m.c.Tariff.Lost} {
			if n >= 0 && n <= api.MaxAt {
				all = append(all, n)
			}
		}
	}
	slices.Sort(all)
	return slices.Compact(all)
}

// compare holds all that is said of a counter against the model.
func compare(t *testing.T, c api.Counter) {
	t.Helper()
	m := newModel(c)
	if e := hire.Check(c); e != api.OK {
		t.Errorf("error %d", e)
	}
	if len(m.truths) > 0 {
		m.compareSpans(t)
		m.compareMinutes(t, m.moments())
	} else {
		m.compareNone(t)
	}
	if t.Failed() {
		t.Errorf("%+v", c)
	}
}

func (m model) compareNone(t *testing.T) {
	t.Helper()
	wantErrors(t, "no truth", slices.Concat(ofGuest(m.c, asked{}), ofUmbrella(m.c, asked{}), ofMinute(m.c, asked{})), api.ErrNone)
	for clerk := range m.c.Clerks {
		wantErrors(t, "no truth", ofClerk(m.c, asked{clerk: clerk}), api.ErrNone)
	}
	for _, s := range m.slips {
		if s.Kind == api.Lent {
			wantErrors(t, "no truth", ofSlip(m.c, asked{slip: s.Id}), api.ErrNone)
		}
	}
}

// compareSpan holds one answer against the model's.
func (m model) compareSpan(t *testing.T, is answer, of int, ask func(x truth) (int, bool)) {
	t.Helper()
	want, ok := m.spanOf(ask)
	if ok && (is.value != want || is.e != api.OK) || !ok && (!is.zero || is.e != api.ErrNone) {
		t.Errorf("%s of %d = %v, error %d; want %v, %v", is.name, of, is.value, is.e, want, ok)
	}
}

func (m model) compareSpans(t *testing.T) {
	t.Helper()
	for clerk := range m.c.Clerks {
		m.compareSpan(t, ofClerk(m.c, asked{clerk: clerk})[0], clerk, always(func(x truth) int { return x.watches[clerk] }))
	}
	for i, s := range m.slips {
		if s.Kind == api.Lent {
			is := ofSlip(m.c, asked{slip: s.Id})
			m.compareSpan(t, is[0], s.Id, func(x truth) (int, bool) { return m.lasts(x, i) })
			m.compareSpan(t, is[1], s.Id, func(x truth) (int, bool) { return m.fee(x, i) })
		}
	}
	for _, guest := range guests(m.c) {
		m.compareSpan(t, ofGuest(m.c, asked{guest: guest})[0], guest, always(func(x truth) int { return m.owes(x, guest) }))
	}
}

// guests are those of all slips, and one of none.
func guests(c api.Counter) []int {
	all := []int{0, 98}
	for _, s := range c.Slips {
		all = append(all, s.Guest)
	}
	slices.Sort(all)
	return slices.Compact(all)
}

func (m model) compareMinutes(t *testing.T, moments []int) {
	t.Helper()
	for _, minute := range moments {
		for _, umbrella := range m.umbrellas() {
			if l, e := hire.Where(m.c, umbrella, minute); !slices.Equal(l, m.where(umbrella, minute)) || e != api.OK {
				t.Errorf("Where of %d after %d = %v, error %d; want %v", umbrella, minute, l, e, m.where(umbrella, minute))
			}
		}
		m.compareSpan(t, ofMinute(m.c, asked{minute: minute})[0], minute, always(func(x truth) int { return m.held(x, minute) }))
		sure, may := m.missings(minute)
		wantMissing(t, m.c, minute, sure, may)
	}
}

// random draws counters, always the same ones.
type random struct{ *rand.Rand }

func newRandom(seed uint64) random { return random{rand.New(rand.NewPCG(seed, 9))} }

func (x random) from(low, high int) int { return low + x.IntN(high-low+1) }

// size is how many counters are drawn, and how large they are at most: clerks,
// the minutes by which a watch is wrong, slips, umbrellas, guests, and the
// minutes from the first one on in which all happens.
type size struct {
	many, clerks, slow, slips, umbrellas, guests, first, minutes int
}

func sizes() map[string]size {
	return map[string]size{
		"small":          {3000, 2, 3, 6, 2, 2, 5, 25},
		"one umbrella":   {1200, 3, 3, 12, 1, 3, 20, 40},
		"two umbrellas":  {1200, 3, 3, 12, 2, 2, 20, 25},
		"many umbrellas": {600, 3, 2, 12, 10, 4, 20, 20},
		"slow watches":   {500, 2, 12, 8, 2, 2, 40, 60},
		"first minutes":  {1000, 2, 5, 6, 2, 2, -5, 10},
		"last minutes":   {1000, 2, 5, 6, 2, 2, 9985, 18},
		"any order":      {1200, 3, 6, 4, 1, 3, 20, 6},
	}
}

// large are counters with many truths.
func large() map[string]size {
	return map[string]size{
		"all day":        {4, 3, 30, 12, 3, 4, 0, 9990},
		"all at once":    {8, 3, 30, 12, 4, 3, 0, 150},
		"many umbrellas": {3, 3, 30, 12, 10, 4, 0, 100},
		"two watches":    {40, 2, 30, 12, 3, 3, 0, 300},
		"one umbrella":   {10, 3, 30, 12, 1, 3, 0, 400},
	}
}

func (x random) watch(z size) api.Span {
	if x.IntN(3) == 0 || z.slow == api.MaxSlow && x.IntN(3) > 0 {
		return span(-z.slow, z.slow)
	}
	low := x.from(-z.slow, z.slow)
	return span(low, x.from(low, z.slow))
}

// slips draws what happened, most of it such that there is a truth: slips by watches that are wrong by
// what is within their spans, of umbrellas that go out and come back by turns.
func (x random) slips(z size, clerks []api.Span) []api.Slip {
	var minutes, slow, ids []int
	for range x.from(z.slips/2, z.slips) {
		minutes = append(minutes, x.from(z.first, z.first+z.minutes))
	}
	slices.Sort(minutes)
	for _, s := range clerks {
		slow = append(slow, x.from(s.Low, s.High))
	}
	ids = x.Perm(100)
	var list []api.Slip
	out := map[int]bool{}
	for i, minute := range minutes {
		s := api.Slip{Id: ids[i], Clerk: x.IntN(len(clerks)), Kind: api.Returned, Umbrella: x.IntN(z.umbrellas)}
		s.At = min(max(0, minute-slow[s.Clerk]), api.MaxAt)
		if out[s.Umbrella] == (x.IntN(60) == 0) {
			s.Kind, s.Guest = api.Lent, x.IntN(z.guests)
		}
		out[s.Umbrella] = s.Kind == api.Lent
		list = append(list, s)
	}
	x.Shuffle(len(list), func(i, k int) { list[i], list[k] = list[k], list[i] })
	return list
}

func (x random) closed(z size) []api.Span {
	var list []api.Span
	low := max(0, z.first-5)
	for range x.IntN(api.MaxClosed + 1) {
		low += x.IntN(z.minutes/4 + 1)
		high := min(low+x.IntN(z.minutes/3+1), api.MaxAt)
		if low > high {
			break
		}
		list = append(list, span(low, high))
		low = high + 1
	}
	return list
}

func (x random) tariff(z size) api.Tariff {
	many := z.minutes / 3
	return api.Tariff{
		Free: x.IntN(many/2 + 1), Unit: x.from(1, many/2+1), Price: x.IntN(9), Most: x.IntN(30), Lost: x.from(1, many+1), Value: x.IntN(40), Pledge: x.IntN(10),
	}
}

func (x random) counter(z size) api.Counter {
	c := api.Counter{Closed: x.closed(z), Tariff: x.tariff(z)}
	for range x.from(z.clerks-1, z.clerks) {
		c.Clerks = append(c.Clerks, x.watch(z))
	}
	c.Slips = x.slips(z, c.Clerks)
	for range max(0, x.IntN(6)-3) { // one that is void, so that it can be that umbrellas go out twice
		c.Voided = append(c.Voided, x.IntN(100))
	}
	for range max(0, x.IntN(6)-3) {
		if s := c.Slips[x.IntN(len(c.Slips))]; len(c.Slips) < api.MaxSlips {
			c.Slips = append(c.Slips, s)
			if x.IntN(4) == 0 {
				c.Voided = append(c.Voided, s.Id)
			}
		}
	}
	return c
}

func TestModel(t *testing.T) {
	for name, z := range sizes() {
		t.Run(name, func(t *testing.T) {
			x := newRandom(1)
			for range z.many {
				compare(t, x.counter(z))
				if t.Failed() {
					return
				}
			}
		})
	}
}

// Counters of any size, of which some is asked.
func TestModelOfLargeCounters(t *testing.T) {
	met := map[string]int{}
	for name, z := range large() {
		x := newRandom(2)
		for range z.many {
			m := newModel(x.counter(z))
			for len(m.truths) == 0 {
				m = newModel(x.counter(z))
			}
			m.compareSpans(t)
			moments := m.moments()
			m.compareMinutes(t, []int{moments[x.IntN(len(moments))]})
			if t.Failed() {
				t.Fatalf("%s: %+v", name, m.c)
			}
			count(met, map[string]bool{"many truths": len(m.truths) > 10000, "very many truths": len(m.truths) > 50000})
		}
	}
	wantMet(t, met, 5, "many truths")
	wantMet(t, met, 2, "very many truths")
}

// count counts what is so.
func count(met map[string]int, all map[string]bool) {
	for name, is := range all {
		if is {
			met[name]++
		}
	}
}

// wantMet wants that each of these was met a number of times at the least.
func wantMet(t *testing.T, met map[string]int, least int, names ...string) {
	t.Helper()
	for _, name := range names {
		if met[name] < least {
			t.Errorf("%s: %d", name, met[name])
		}
	}
}

// The counters that are drawn have all that can be in them.
func TestModelMeetsAll(t *testing.T) {
	met := map[string]int{}
	for _, z := range sizes() {
		x := newRandom(1)
		for range min(z.many, 1500) {
			m := newModel(x.counter(z))
			count(met, map[string]bool{"no truth": len(m.truths) == 0, "one truth": len(m.truths) == 1, "many truths": len(m.truths) > 20, "all truths": m.all()})
			if len(m.truths) > 0 {
				meetSlips(met, m)
				meetHires(met, m)
				meetMinutes(met, m)
			}
		}
	}
	wantMet(t, met, 20,
		"no truth", "one truth", "many truths", "all truths", "slips that are void", "equal slips", "void Ids of no slips", "a watch that is better known",
		"another order", "finished in some truths", "finished in none", "minutes below 0", "minutes above MaxAt", "begun when closed", "ended when closed", "all closed",
		"free", "lost", "the most", "units", "a part of a unit", "lost for less", "perhaps lost", "a fee between those of the ends", "three in Where", "perhaps missing", "surely missing", "held perhaps", "one for another",
	)
}

// all tells whether all that the watches can be are truths.
func (m model) all() bool {
	many := 1
	for _, s := range m.c.Clerks {
		many *= s.High - s.Low + 1
	}
	return many > 1 && len(m.truths) == many
}

// order are the slips that count by umbrellas, in the order of their minutes.
func (m model) order(x truth) []int {
	list := from(0, len(m.slips))
	slices.SortFunc(list, func(i, k int) int {
		if m.slips[i].Umbrella != m.slips[k].Umbrella {
			return m.slips[i].Umbrella - m.slips[k].Umbrella
		}
		return x.minutes[i] - x.minutes[k]
	})
	return list
}

func meetSlips(met map[string]int, m model) {
	c := m.c
	known := false
	for clerk, s := range c.Clerks {
		w, _ := m.spanOf(always(func(x truth) int { return x.watches[clerk] }))
		known = known || w != s
	}
	other := false
	for _, x := range m.truths[1:] {
		other = other || !slices.Equal(m.order(x), m.order(m.truths[0]))
	}
	has := func(id int) bool { return slices.ContainsFunc(c.Slips, func(s api.Slip) bool { return s.Id == id }) }
	count(met, map[string]bool{
		"slips that are void":  slices.ContainsFunc(c.Voided, has),
		"void Ids of no slips": slices.ContainsFunc(c.Voided, func(id int) bool { return !has(id) }),
		"equal slips": slices.ContainsFunc(c.Slips, func(s api.Slip) bool {
			return slices.Index(c.Slips, s) != len(c.Slips)-1 && s == c.Slips[len(c.Slips)-1]
		}),
		"a watch that is better known": known, "another order": other,
	})
}

func meetHires(met map[string]int, m model) {
	for i, s := range m.slips {
		if s.Kind == api.Returned {
			continue
		}
		finished := 0
		for _, x := range m.truths {
			next := m.next(x, i)
			if next == none {
				continue
			}
			finished++
			from, to := x.minutes[i], x.minutes[next]
			lasts, fee := m.minutes(from, to), 0
			fee, _ = m.fee(x, i)
			t := m.c.Tariff
			count(met, map[string]bool{
				"minutes below 0": from < 0, "minutes above MaxAt": to > api.MaxAt, "begun when closed": closed(m.c, from), "ended when closed": closed(m.c, to),
				"all closed": lasts == 0, "free": lasts > 0 && lasts <= t.Free && lasts < t.Lost, "lost": lasts >= t.Lost, "lost for less": lasts >= t.Lost && t.Value < t.Most,
				"the most": lasts < t.Lost && fee == t.Most && fee > 0, "units": fee > t.Price && fee < t.Most, "a part of a unit": lasts < t.Lost && lasts > t.Free && (lasts-t.Free)%t.Unit > 0,
			})
		}
		low, _ := m.spanOf(func(x truth) (int, bool) { return m.lasts(x, i) })
		fees, _ := m.spanOf(func(x truth) (int, bool) { return m.fee(x, i) })
		ends, _ := m.spanOf(func(x truth) (int, bool) {
			lasts, _ := m.lasts(x, i)
			fee, ok := m.fee(x, i)
			return fee, ok && (lasts == low.Low || lasts == low.High)
		})
		count(met, map[string]bool{
			"finished in none": finished == 0, "finished in some truths": finished > 0 && finished < len(m.truths),
			"perhaps lost": low.Low < m.c.Tariff.Lost && low.High >= m.c.Tariff.Lost, "a fee between those of the ends": fees != ends,
		})
	}
}

func meetMinutes(met map[string]int, m model) {
	for _, minute := range m.moments() {
		sure, may := m.missings(minute)
		held, _ := m.spanOf(always(func(x truth) int { return m.held(x, minute) }))
		count(met, map[string]bool{"perhaps missing": len(may) > len(sure), "surely missing": len(sure) > 0, "held perhaps": held.Low < held.High})
		perhaps := 0
		for _, umbrella := range m.umbrellas() {
			where := m.where(umbrella, minute)
			count(met, map[string]bool{"three in Where": len(where) > 2})
			if len(where) > 1 && where[0] == -1 {
				perhaps++
			}
		}
		count(met, map[string]bool{"one for another": perhaps > 1 && held.High-held.Low < perhaps*m.c.Tariff.Pledge})
	}
}
