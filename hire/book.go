package hire

import (
	"iter"
	"slices"

	"ferrule/api"
)

const umbrellas = api.MaxUmbrella + 1

// book is a valid counter with the events of each umbrella. While truths are
// gone through, these are as they are in one truth after the other, so that no
// new ones need be made for each of the many truths.
type book struct {
	api.Counter
	events [umbrellas][]event // in the order of their minutes
}

// event is a slip that counts, with its minute in a truth.
type event struct {
	api.Slip
	minute int
}

// open checks a counter, and is told whether the arguments beside it are valid.
func open(c api.Counter, valid bool) (*book, api.Errno) {
	if e := Check(c); e != api.OK {
		return nil, e
	}
	if !valid {
		return nil, api.ErrArg
	}
	b := &book{Counter: c}
	slips, _ := byId(c.Slips)
	for _, id := range c.Voided {
		delete(slips, id)
	}
	for _, s := range sortedSlips(slips) {
		b.events[s.Umbrella] = append(b.events[s.Umbrella], event{Slip: s})
	}
	return b, api.OK
}

// truths yields for each truth by how many minutes each watch is behind.
func (b *book) truths(yield func(watches []int) bool) { b.search(yield) }

// search yields the truths in which the first watches are so, and tells whether more are wanted.
func (b *book) search(yield func(watches []int) bool, watches ...int) bool {
	clerk := len(watches)
	if clerk == len(b.Clerks) {
		return !b.settle(watches) || yield(watches)
	}
	for slow := b.Clerks[clerk].Low; slow <= b.Clerks[clerk].High; slow++ {
		if !b.search(yield, append(watches[:clerk:clerk], slow)...) {
			return false
		}
	}
	return true
}

// settle gives all events the minutes that they have with some watches, and tells whether this is a truth.
func (b *book) settle(watches []int) bool {
	for _, events := range b.events {
		for i := range events {
			events[i].minute = events[i].At + watches[events[i].Clerk]
		}
		slices.SortFunc(events, func(x, y event) int { return x.minute - y.minute })
		if !byTurns(events) {
			return false
		}
	}
	return true
}

// byTurns tells whether events in their order have different minutes, and an umbrella goes out and comes back by turns.
func byTurns(events []event) bool {
	for i, x := range events {
		if i > 0 && events[i-1].minute == x.minute || (x.Kind == api.Lent) != (i%2 == 0) {
			return false
		}
	}
	return true
}

// numbers yields what is asked of each truth, where it has such a number.
func (b *book) numbers(ask func(watches []int) (int, bool)) iter.Seq[int] {
	return func(yield func(int) bool) {
		for watches := range b.truths {
			if n, ok := ask(watches); ok && !yield(n) {
				return
			}
		}
	}
}

// spanOf is from the least to the greatest of some numbers.
func spanOf(numbers iter.Seq[int]) (api.Span, api.Errno) {
	var s api.Span
	e := api.ErrNone
	for n := range numbers {
		if e == api.ErrNone {
			s, e = api.Span{Low: n, High: n}, api.OK
		}
		s.Low, s.High = min(s.Low, n), max(s.High, n)
	}
	return s, e
}
