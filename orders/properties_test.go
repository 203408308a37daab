package orders_test

import (
	"math"
	"slices"
	"testing"

	"ferrule/api"
	"ferrule/canes"
	"ferrule/orders"
	"ferrule/parts"
)

func most(s api.Shop) int { n, _ := orders.Most(s); return n }

// takes is what a plan takes, or noPlan if it cannot be filled.
func takes(s api.Shop, plan []int) int {
	n, e := orders.Takes(s, plan)
	if e != api.OK {
		return noPlan
	}
	return n
}

// extra is what Extra returns, or more than any number if there is none.
func extra(s api.Shop) int {
	n, e := orders.Extra(s)
	if e != api.OK {
		return math.MaxInt
	}
	return n
}

func sumOf(wishes []api.Wish) int {
	sum := 0
	for _, w := range wishes {
		sum += w.Price
	}
	return sum
}

// drawn are shops of all sizes, with a truth.
func drawn(seed uint64, many int) []api.Shop {
	x := newRandom(seed)
	list := []api.Shop{shopX()}
	add := func(s api.Shop) {
		if _, e := orders.Most(s); e == api.OK {
			list = append(list, s)
		}
	}
	for _, b := range bests() {
		add(b.s)
	}
	greatest := []size{large()["large"], large()["large and clear"], large()["large and dear"]}
	for i := range many {
		for _, z := range []size{
			sizes()["small"], sizes()["many wishes"], sizes()["many pieces"], sizes()["many deliveries"], sizes()["many repairs"], sizes()["any price"],
		} {
			add(x.shop(z))
		}
		if i%3 == 0 {
			add(x.shop(greatest[i/3%3]))
		}
	}
	return list
}

// somePlans are all plans of a shop, or some of them if there are many.
func somePlans(s api.Shop, many int) [][]int {
	if len(s.Wishes) > 4 {
		return nil
	}
	var some [][]int
	all := plans(len(s.Wishes), len(s.Pieces))
	for i := 0; i < len(all); i += 1 + len(all)/many {
		some = append(some, all[i])
	}
	return some
}

func TestP8_9BestPlan(t *testing.T) {
	met := map[string]int{}
	for _, s := range drawn(9, 40) {
		n := most(s)
		for _, p := range somePlans(s, 300) {
			if takes(s, p) > n {
				t.Errorf("%+v: Most = %d, but %v takes %d", s, n, p, takes(s, p))
			}
			count(met, map[string]bool{"cannot be filled": takes(s, p) == noPlan, "takes less": takes(s, p) != noPlan && takes(s, p) < n})
		}
		if p, e := orders.Plan(s); takes(s, p) != n || e != api.OK {
			t.Errorf("%+v: Most = %d; Plan = %v, error %d, takes %d", s, n, p, e, takes(s, p))
		}
		for wish := range s.Wishes {
			can, _ := orders.Can(s, wish)
			for piece := range s.Pieces {
				is := takes(s, alone(len(s.Wishes), wish, piece)) != noPlan
				if is != slices.Contains(can, piece) {
					t.Errorf("%+v: Can of %d = %v; filled with %d: %v", s, wish, can, piece, is)
				}
				count(met, map[string]bool{"can": is, "cannot": !is})
			}
		}
	}
	wantMet(t, met, 100, "cannot be filled", "takes less", "can", "cannot")
}

// holdsNoWorse holds that a shop with something better takes no less, and needs no more to be bought.
func holdsNoWorse(t *testing.T, met map[string]int, what string, s, better api.Shop) {
	t.Helper()
	if orders.Check(better) != api.OK {
		t.Errorf("%s: %+v", what, better)
	}
	n, m := most(s), most(better)
	e, f := extra(s), extra(better)
	if m < n || f > e {
		t.Errorf("%+v: Most = %d, Extra = %d; %s: %d, %d: %+v", s, n, e, what, m, f, better)
	}
	count(met, map[string]bool{what + ": takes more": m > n, what + ": takes as much": m == n, what + ": fewer to be bought": f < e, what + ": as many": f == e})
}

func wantMetOf(t *testing.T, met map[string]int, least int, whats ...string) {
	t.Helper()
	for _, what := range whats {
		wantMet(t, met, least, what+": takes more", what+": takes as much", what+": fewer to be bought", what+": as many")
	}
}

func TestP8_10SpareMore(t *testing.T) {
	x := newRandom(10)
	met := map[string]int{}
	for _, s := range drawn(10, 500) {
		if len(s.Stock) == 0 {
			continue
		}
		if spare := x.IntN(len(s.Stock)); s.Stock[spare] < api.MaxJobs {
			more := copied(s)
			more.Stock[spare]++
			holdsNoWorse(t, met, "one spare more", s, more)
		}
		if len(s.Deliveries) < api.MaxDeliveries {
			more := copied(s)
			more.Deliveries = slices.Insert(more.Deliveries, x.IntN(len(s.Deliveries)+1), delivery(x.IntN(4), x.IntN(len(s.Stock)), x.from(1, 3)))
			holdsNoWorse(t, met, "one delivery more", s, more)
		}
		if len(s.Deliveries) > 0 {
			more := copied(s)
			d := &more.Deliveries[x.IntN(len(s.Deliveries))]
			d.Day = x.IntN(d.Day + 1)
			holdsNoWorse(t, met, "an earlier delivery", s, more)
		}
	}
	wantMetOf(t, met, 20, "one spare more", "one delivery more", "an earlier delivery")
}

func TestP8_11WishMore(t *testing.T) {
	x := newRandom(11)
	met := map[string]int{}
	for _, s := range drawn(11, 400) {
		if len(s.Wishes) == api.MaxWishes {
			continue
		}
		w := x.wish(size{marks: 2, days: 4, prices: 12})
		more := copied(s)
		more.Wishes = slices.Insert(more.Wishes, x.IntN(len(s.Wishes)+1), w)
		n, m := most(s), most(more)
		if m < n || m > n+w.Price || extra(more) < extra(s) {
			t.Errorf("%+v: Most = %d, Extra = %d; with %+v: %d, %d", s, n, extra(s), w, m, extra(more))
		}
		count(met, map[string]bool{
			"as much": m == n, "its price more": m > n && m == n+w.Price, "a part of it more": m > n && m < n+w.Price,
			"more to be bought": extra(more) > extra(s), "as many": extra(more) == extra(s),
		})
	}
	wantMet(t, met, 20, "as much", "its price more", "a part of it more", "more to be bought", "as many")
}

func TestP8_12AnyOrder(t *testing.T) {
	x := newRandom(12)
	for _, s := range drawn(12, 200) {
		other := copied(s)
		x.Shuffle(len(s.Wishes), func(i, k int) { other.Wishes[i], other.Wishes[k] = other.Wishes[k], other.Wishes[i] })
		x.Shuffle(len(s.Pieces), func(i, k int) { other.Pieces[i], other.Pieces[k] = other.Pieces[k], other.Pieces[i] })
		x.Shuffle(len(s.Deliveries), func(i, k int) {
			other.Deliveries[i], other.Deliveries[k] = other.Deliveries[k], other.Deliveries[i]
		})
		if most(s) != most(other) || extra(s) != extra(other) {
			t.Errorf("%+v: Most = %d, Extra = %d; %+v: %d, %d", s, most(s), extra(s), other, most(other), extra(other))
		}
		if p, e := orders.Plan(other); takes(other, p) != most(s) || e != api.OK {
			t.Errorf("%+v: Plan = %v takes %d; want %d", other, p, takes(other, p), most(s))
		}
	}
}

func TestP8_13MoreTime(t *testing.T) {
	x := newRandom(13)
	met := map[string]int{}
	for _, s := range drawn(13, 400) {
		if len(s.Wishes) > 0 {
			later := copied(s)
			w := &later.Wishes[x.IntN(len(s.Wishes))]
			w.Due = x.from(w.Due, min(w.Due+4, api.MaxDue))
			holdsNoWorse(t, met, "a later Due", s, later)
		}
		sooner := copied(s)
		sooner.Carve = x.IntN(s.Carve + 1)
		holdsNoWorse(t, met, "a lesser Carve", s, sooner)
	}
	wantMetOf(t, met, 20, "a later Due", "a lesser Carve")
}

func TestP8_14AllOfThem(t *testing.T) {
	met := map[string]int{}
	for _, s := range drawn(14, 150) {
		if len(s.Wishes) > 4 {
			continue
		}
		all := false
		for _, p := range plans(len(s.Wishes), len(s.Pieces)) {
			all = all || isWhole(p) && takes(s, p) != noPlan
		}
		if all != (extra(s) == 0) || all && most(s) != sumOf(s.Wishes) {
			t.Errorf("%+v: all can be filled: %v; Extra = %d, Most = %d of %d", s, all, extra(s), most(s), sumOf(s.Wishes))
		}
		count(met, map[string]bool{"all": all && len(s.Wishes) > 1, "not all": !all})
	}
	// of shops with many plans, those that lack nothing take all
	x := newRandom(15)
	for range 300 {
		s := x.shop(large()["large"])
		if extra(s) == 0 && most(s) != sumOf(s.Wishes) {
			t.Errorf("%+v: Extra = 0, Most = %d of %d", s, most(s), sumOf(s.Wishes))
		}
		count(met, map[string]bool{"all of many": extra(s) == 0 && len(s.Wishes) > 4})
	}
	wantMet(t, met, 20, "all", "not all", "all of many")
}

func TestP8_15LostDelivery(t *testing.T) {
	met := map[string]int{}
	for _, s := range drawn(16, 250) {
		none, early := copied(s), copied(s)
		none.Deliveries = nil
		for d := range early.Deliveries {
			early.Deliveries[d].Day = 0
		}
		for d := range s.Deliveries {
			n, e := orders.Without(s, d)
			if n > most(s) || n < most(none) || e != api.OK {
				t.Errorf("%+v: Without of %d = %d, error %d; Most = %d, and %d without deliveries", s, d, n, e, most(s), most(none))
			}
			m, _ := orders.Without(early, d)
			if m < n {
				t.Errorf("%+v: Without of %d = %d; with all on the day 0: %d", s, d, n, m)
			}
			count(met, map[string]bool{"less": n < most(s), "more than without all": n > most(none), "more on the day 0": m > n})
		}
		holdsNoWorse(t, met, "all on the day 0", s, early)
	}
	wantMet(t, met, 20, "less", "more than without all", "more on the day 0")
	wantMetOf(t, met, 20, "all on the day 0")
}

// repairsOf are the broken slots of the pieces of a plan; not ok if a piece does not suit or cannot be carved in time.
func repairsOf(s api.Shop, plan []int) ([]api.Job, bool) {
	var jobs []api.Job
	for wish, piece := range plan {
		if piece == none {
			continue
		}
		how, _ := orders.Suits(s, wish, piece)
		if how == api.Unsuited || how == api.Carved && s.Carve > s.Wishes[wish].Due {
			return nil, false
		}
		for _, slot := range s.Pieces[piece].Broken {
			jobs = append(jobs, api.Job{Make: s.Pieces[piece].Make, Slot: slot})
		}
	}
	return jobs, true
}

func TestP0_3RepairsOfAPlan(t *testing.T) {
	met := map[string]int{}
	for _, s := range drawn(17, 80) {
		s.Deliveries = nil
		for _, p := range somePlans(s, 100) {
			jobs, ok := repairsOf(s, p)
			if len(jobs) > api.MaxJobs {
				continue
			}
			n, e := parts.Most(s.Workshop, s.Stock, jobs)
			if e != api.OK {
				t.Fatalf("%+v: Most of %v: error %d", s, jobs, e)
			}
			want := ok && n == len(jobs)
			if is := takes(s, p) != noPlan; is != want {
				t.Errorf("%+v: %v is filled: %v; in time: %v, repairs done: %d of %d", s, p, is, ok, n, len(jobs))
			}
			count(met, map[string]bool{"filled": want && len(jobs) > 1, "not all done": ok && !want, "not in time": !ok})
		}
	}
	wantMet(t, met, 100, "filled", "not all done", "not in time")
}

// hasSpares tells whether some spare surely fits the slot of each job.
func hasSpares(w api.Workshop, jobs []api.Job) bool {
	for _, j := range jobs {
		has := false
		for spare := range w.Spares {
			n, _ := parts.Fits(w, spare, j.Make, j.Slot)
			has = has || n == api.Surely
		}
		if !has {
			return false
		}
	}
	return true
}

func TestP0_4WhatMustBeBought(t *testing.T) {
	met := map[string]int{}
	for _, s := range drawn(18, 80) {
		for _, p := range somePlans(s, 200) {
			jobs, ok := repairsOf(s, p)
			if !isWhole(p) || !ok || len(jobs) > api.MaxJobs || !hasSpares(s.Workshop, jobs) {
				continue
			}
			n, _ := parts.Most(s.Workshop, s.Stock, jobs)
			undone := len(jobs) - n
			if extra(s) > undone {
				t.Errorf("%+v: Extra = %d, but of %v %d repairs are undone", s, extra(s), p, undone)
			}
			count(met, map[string]bool{"as many": extra(s) == undone && undone > 0, "fewer": extra(s) < undone, "nothing": undone == 0})
		}
	}
	wantMet(t, met, 50, "as many", "fewer", "nothing")
}

// steamer draws a steam box that is done by the greatest day that can be due.
func (x random) steamer() api.Steamer {
	s := api.Steamer{Room: x.from(1, 3)}
	for range x.from(2, 4) {
		s.Boils = append(s.Boils, api.Boil{Soak: x.from(0, 9), Bend: x.from(0, 5)})
	}
	return s
}

func TestP0_13SteamBox(t *testing.T) {
	x := newRandom(19)
	met := map[string]int{}
	for _, s := range drawn(19, 100) {
		box := x.steamer()
		order, e := canes.Order(box)
		done, f := canes.Done(box, order)
		if e != api.OK || f != api.OK {
			t.Fatalf("%+v: Order = %v, error %d; Done: error %d", box, order, e, f)
		}
		quick := copied(s)
		quick.Carve = done
		for i, w := range s.Wishes { // some wishes are due when letters may have been carved
			quick.Wishes[i].Due = min(w.Due+x.IntN(2)*x.IntN(done+6), api.MaxDue)
		}
		for range 4 {
			other := copied(quick)
			late, e := canes.Done(box, x.Perm(len(box.Boils)))
			if e != api.OK {
				t.Fatalf("%+v: Done: error %d", box, e)
			}
			other.Carve = late
			if most(other) > most(quick) || orders.Check(other) != api.OK {
				t.Errorf("%+v: Most = %d if carved by %d; by %d: %d", quick, most(quick), done, late, most(other))
			}
			count(met, map[string]bool{"less": most(other) < most(quick), "as much, but late": late > done && most(other) == most(quick)})
		}
	}
	wantMet(t, met, 20, "less", "as much, but late")
}
