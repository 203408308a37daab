package hire_test

import (
	"reflect"
	"slices"
	"testing"

	"ferrule/api"
	"ferrule/hire"
)

// drawn are counters of all sizes, with a truth.
func drawn(seed uint64, many int) []api.Counter {
	x := newRandom(seed)
	list := []api.Counter{counterC(), laden(), either()}
	for range many {
		for _, name := range []string{"small", "one umbrella", "two umbrellas", "many umbrellas", "slow watches", "first minutes", "last minutes", "any order"} {
			c := x.counter(sizes()[name])
			if _, e := hire.Held(c, 0); e == api.OK {
				list = append(list, c)
			}
		}
	}
	return list
}

// fees are those of all slips of api.Lent that count and are finished in some truth.
func fees(c api.Counter) map[int]api.Span {
	fees := map[int]api.Span{}
	for _, s := range lentSlips(c) {
		if f, e := hire.Fee(c, s.Id); e == api.OK {
			fees[s.Id] = f
		}
	}
	return fees
}

// lentSlips are the slips of api.Lent that count, each once.
func lentSlips(c api.Counter) []api.Slip {
	var list []api.Slip
	for i, s := range c.Slips {
		if s.Kind == api.Lent && !slices.Contains(c.Slips[:i], s) && !slices.Contains(c.Voided, s.Id) {
			list = append(list, s)
		}
	}
	return list
}

// within tells whether a number is in a span that was returned without an error.
func within(n int, is answer) bool {
	s, ok := is.value.(api.Span)
	return ok && is.e == api.OK && s.Low <= n && n <= s.High
}

func TestP9_10EachTruth(t *testing.T) {
	x := newRandom(10)
	for _, c := range drawn(10, 60) {
		m := newModel(c)
		minute := m.moments()[x.IntN(len(m.moments()))]
		var where [10][]int
		for umbrella := range where {
			where[umbrella], _ = hire.Where(c, umbrella, minute)
		}
		held := ofMinute(c, asked{minute: minute})[0]
		for clerk := range c.Clerks {
			watch := ofClerk(c, asked{clerk: clerk})[0]
			m.inEach(t, watch, always(func(y truth) int { return y.watches[clerk] }))
		}
		for i, s := range m.slips {
			if s.Kind == api.Lent {
				is := ofSlip(c, asked{slip: s.Id})
				m.inEach(t, is[0], func(y truth) (int, bool) { return m.lasts(y, i) })
				m.inEach(t, is[1], func(y truth) (int, bool) { return m.fee(y, i) })
			}
		}
		for _, guest := range guests(c) {
			m.inEach(t, ofGuest(c, asked{guest: guest})[0], always(func(y truth) int { return m.owes(y, guest) }))
		}
		m.inEach(t, held, always(func(y truth) int { return m.held(y, minute) }))
		for _, y := range m.truths {
			for umbrella, guests := range where {
				if guest := m.with(y, umbrella, minute); !slices.Contains(guests, guest) {
					t.Errorf("%+v: Where of %d after %d = %v, but it can be with %d", c, umbrella, minute, guests, guest)
				}
			}
		}
	}
}

// inEach wants that what is asked of each truth is within an answer.
func (m model) inEach(t *testing.T, is answer, ask func(x truth) (int, bool)) {
	t.Helper()
	for _, x := range m.truths {
		if n, ok := ask(x); ok && !within(n, is) {
			t.Errorf("%+v: %s = %v, error %d, but it can be %d", m.c, is.name, is.value, is.e, n)
		}
	}
}

// known is all that is said of a counter, but for minutes that are not asked for.
func known(c api.Counter, moments []int) []answer {
	var all []answer
	for clerk := range c.Clerks {
		all = append(all, ofClerk(c, asked{clerk: clerk})...)
	}
	for id := range 100 {
		all = append(all, ofSlip(c, asked{slip: id})...)
	}
	for guest := range 100 {
		if slices.ContainsFunc(c.Slips, func(s api.Slip) bool { return s.Guest == guest }) {
			all = append(all, ofGuest(c, asked{guest: guest})...)
		}
	}
	for _, minute := range moments {
		all = append(all, ofMinute(c, asked{minute: minute})...)
		for umbrella := range 10 {
			all = append(all, ofUmbrella(c, asked{umbrella: umbrella, minute: minute})...)
		}
	}
	return all
}

// some are a few of a list.
func some[E any](x random, list []E, many int) []E {
	var few []E
	for range many {
		few = append(few, list[x.IntN(len(list))])
	}
	return few
}

func TestP9_11LateSlips(t *testing.T) {
	x := newRandom(11)
	for _, c := range drawn(11, 30) {
		if len(c.Slips) == 0 {
			continue
		}
		moments := some(x, newModel(c).moments(), 3)
		want := known(c, moments)
		late := copied(c)
		if len(late.Slips) < api.MaxSlips {
			late.Slips = append(late.Slips, late.Slips[x.IntN(len(late.Slips))])
		}
		x.Shuffle(len(late.Slips), func(i, k int) { late.Slips[i], late.Slips[k] = late.Slips[k], late.Slips[i] })
		x.Shuffle(len(late.Voided), func(i, k int) { late.Voided[i], late.Voided[k] = late.Voided[k], late.Voided[i] })
		merged, e := hire.Merge(c, nil, nil)
		for _, other := range []api.Counter{late, merged} {
			if is := known(other, moments); !reflect.DeepEqual(is, want) {
				t.Errorf("%+v: %v; %+v: %v", c, want, other, is)
			}
		}
		// some of them with the others, some of which are there already
		n, k := x.IntN(len(late.Slips)+1), x.IntN(len(late.Voided)+1)
		part := copied(late)
		part.Slips, part.Voided = late.Slips[:n], late.Voided[:k]
		again, f := hire.Merge(part, late.Slips[x.IntN(n+1):], late.Voided[x.IntN(k+1):])
		if e != api.OK || f != api.OK || !reflect.DeepEqual(again, merged) {
			t.Errorf("%+v: Merge = %+v, error %d; of a part %+v, error %d", c, merged, e, again, f)
		}
	}
}

func TestP9_12ToTheCent(t *testing.T) {
	x := newRandom(12)
	met := map[string]int{}
	for _, c := range drawn(12, 120) {
		for i := range c.Clerks {
			c.Clerks[i] = api.Span{}
		}
		if _, e := hire.Held(c, 0); e != api.OK {
			continue
		}
		moments := some(x, newModel(c).moments(), 4)
		for _, is := range known(c, moments) {
			if s, ok := is.value.(api.Span); ok && s.Low != s.High {
				t.Errorf("%+v: %s = %v", c, is.name, s)
			}
			if l, ok := is.value.([]int); ok && is.name == "Where" && len(l) != 1 {
				t.Errorf("%+v: Where = %v", c, l)
			}
		}
		sum, owed := 0, 0
		for _, f := range fees(c) {
			sum += f.Low
		}
		for guest := range 100 {
			o, _ := hire.Owes(c, guest)
			owed += o.Low
		}
		if sum != owed {
			t.Errorf("%+v: all fees: %d; all owe: %d", c, sum, owed)
		}
		met["owed"] += min(owed, 1)
		holdsPledges(t, met, c, moments)
	}
	wantMet(t, met, 20, "owed", "one is out", "more are out", "none is out")
}

func holdsPledges(t *testing.T, met map[string]int, c api.Counter, moments []int) {
	t.Helper()
	for _, minute := range moments {
		out := 0
		for umbrella := range 10 {
			if l, _ := hire.Where(c, umbrella, minute); !slices.Equal(l, []int{-1}) {
				out++
			}
		}
		wantHeld(t, c, minute, span(out*c.Tariff.Pledge, out*c.Tariff.Pledge))
		count(met, map[string]bool{"one is out": out == 1, "more are out": out > 1, "none is out": out == 0})
	}
}

func TestP9_13BetterWatch(t *testing.T) {
	x := newRandom(13)
	met := map[string]int{}
	for _, c := range drawn(13, 250) {
		if len(c.Clerks) == 0 {
			continue
		}
		better := copied(c)
		s := &better.Clerks[x.IntN(len(c.Clerks))]
		s.Low = x.from(s.Low, s.High)
		s.High = x.from(s.Low, s.High)
		if _, e := hire.Held(better, 0); e != api.OK {
			met["no truth"]++
			continue
		}
		moments := some(x, newModel(c).moments(), 3)
		was := known(c, moments)
		for i, is := range known(better, moments) {
			holdsNoWider(t, met, was[i], is)
			if t.Failed() {
				t.Fatalf("%+v; %+v", c, better)
			}
		}
	}
	wantMet(t, met, 20, "no truth", "as wide", "narrower", "as many", "fewer", "missing surely", "no longer missing")
	wantMet(t, met, 8, "finished no more")
}

// holdsNoWider wants that an answer is not wider than it was with a watch that was less well known.
func holdsNoWider(t *testing.T, met map[string]int, was, is answer) {
	t.Helper()
	if is.e != api.OK {
		// a hire can be finished in none of the truths that are left
		if was.e != is.e && !(is.e == api.ErrNone && (is.name == "Lasts" || is.name == "Fee")) {
			t.Errorf("%s: error %d, then %d", is.name, was.e, is.e)
		}
		count(met, map[string]bool{"finished no more": was.e == api.OK})
		return
	}
	if s, ok := is.value.(api.Span); ok {
		w := was.value.(api.Span)
		if was.e != api.OK || s.Low < w.Low || s.High > w.High {
			t.Errorf("%s: %v, error %d, then %v", is.name, w, was.e, s)
		}
		count(met, map[string]bool{"as wide": s == w, "narrower": s != w})
		return
	}
	more, fewer := was.value.([]int), is.value.([]int)
	if is.name == "Missing surely" {
		count(met, map[string]bool{"missing surely": len(fewer) > len(more)})
		more, fewer = fewer, more
	}
	for _, n := range fewer {
		if !slices.Contains(more, n) || was.e != api.OK {
			t.Errorf("%s: %v, error %d, then %v", is.name, was.value, was.e, is.value)
		}
	}
	count(met, map[string]bool{
		"as many": is.name == "Where" && len(more) == len(fewer), "fewer": is.name == "Where" && len(more) > len(fewer),
		"no longer missing": is.name == "Missing perhaps" && len(more) > len(fewer),
	})
}

func TestP9_14Tariff(t *testing.T) {
	x := newRandom(14)
	met := map[string]int{}
	for _, c := range drawn(14, 150) {
		was := fees(c)
		for name, change := range map[string]func(t *api.Tariff){
			"a greater Price": func(t *api.Tariff) { t.Price += x.IntN(5) }, "a greater Most": func(t *api.Tariff) { t.Most += x.IntN(9) }, "a greater Free": func(t *api.Tariff) { t.Free += x.IntN(5) },
		} {
			other := copied(c)
			change(&other.Tariff)
			is := fees(other)
			for id, f := range was {
				less, more := f, is[id]
				if name == "a greater Free" {
					less, more = more, less
				}
				if less.Low > more.Low || less.High > more.High || len(is) != len(was) {
					t.Errorf("%+v: Fee of %d = %v; %s: %v", c, id, f, name, is[id])
				}
				count(met, map[string]bool{name: less != more, name + ", but as much": less == more})
			}
		}
		for id, f := range was {
			greatest := max(c.Tariff.Most, c.Tariff.Value)
			if f.High > greatest {
				t.Errorf("%+v: Fee of %d = %v", c, id, f)
			}
			count(met, map[string]bool{"as much as can be": f.High == greatest, "less than can be": f.High < greatest})
		}
	}
	for _, name := range []string{"a greater Price", "a greater Most", "a greater Free"} {
		wantMet(t, met, 20, name, name+", but as much")
	}
	wantMet(t, met, 20, "as much as can be", "less than can be")
}

// A longer hire costs at least as much, if Most is at most Value.
func TestP9_14LongerHire(t *testing.T) {
	x := newRandom(15)
	met := map[string]int{}
	for range 150 {
		tariff := x.tariff(sizes()["one umbrella"])
		tariff.Value = max(tariff.Value, tariff.Most)
		before := 0
		for lasts := 1; lasts < 25; lasts++ {
			c := counter(right(1), lent(1, 0, 7, 0, 1), back(2, 0, 7+lasts, 0))
			c.Tariff = tariff
			f, e := hire.Fee(c, 1)
			if f.Low < before || e != api.OK {
				t.Errorf("%+v: Fee of %d = %v, error %d; before %d", tariff, lasts, f, e, before)
			}
			count(met, map[string]bool{"more": f.Low > before, "as much": f.Low == before})
			before = f.Low
		}
	}
	wantMet(t, met, 100, "more", "as much")
}

// holdsAlone wants that slips of an umbrella alone say as much of it as all together.
func holdsAlone(t *testing.T, c api.Counter, umbrella int, moments []int) {
	t.Helper()
	alone := copied(c)
	alone.Slips = slices.DeleteFunc(alone.Slips, func(s api.Slip) bool { return s.Umbrella != umbrella })
	for _, s := range lentSlips(alone) {
		if was, is := ofSlip(c, asked{slip: s.Id}), ofSlip(alone, asked{slip: s.Id}); !reflect.DeepEqual(was, is) {
			t.Errorf("%+v: %v; alone: %v", c, was, is)
		}
	}
	for _, minute := range moments {
		a := asked{umbrella: umbrella, minute: minute}
		if was, is := ofUmbrella(c, a), ofUmbrella(alone, a); !reflect.DeepEqual(was, is) {
			t.Errorf("%+v: after %d %v; alone: %v", c, minute, was, is)
		}
	}
}

func TestP9_15NobodyElse(t *testing.T) {
	x := newRandom(16)
	met := map[string]int{}
	for _, c := range drawn(16, 80) {
		m := newModel(c)
		moments := some(x, m.moments(), 3)
		sure := copied(c) // with watches that are known
		for i := range c.Clerks {
			n := m.truths[0].watches[i]
			sure.Clerks[i] = span(n, n)
		}
		for _, umbrella := range m.umbrellas() {
			holdsAlone(t, sure, umbrella, moments)
			met["known watches"]++
			alone := copied(c)
			alone.Slips = slices.DeleteFunc(alone.Slips, func(s api.Slip) bool { return s.Umbrella != umbrella })
			if len(newModel(alone).truths) == len(m.truths) && len(m.truths) > 1 { // no watch is better known
				holdsAlone(t, c, umbrella, moments)
				met["watches that are no better known"]++
			}
		}
	}
	wantMet(t, met, 100, "known watches", "watches that are no better known")
}
