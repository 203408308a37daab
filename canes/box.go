package canes

import (
	"iter"
	"math"
	"slices"

	"ferrule/api"
)

// done is the minute in which an order of a valid steamer is done.
func done(s api.Steamer, order []int) int {
	var outs []int
	free := 0 // the minute in which the cane before has been bent
	for place, boil := range order {
		put := 0
		if place >= s.Room {
			put = outs[place-s.Room]
		}
		out := max(put+s.Boils[boil].Soak, free)
		outs = append(outs, out)
		free = out + s.Boils[boil].Bend
	}
	return free
}

// quickest is the first one of the orders that are done first.
func quickest(s api.Steamer) []int {
	var best []int
	soonest := math.MaxInt
	for order := range orders(len(s.Boils)) {
		if end := done(s, order); end < soonest {
			best, soonest = slices.Clone(order), end
		}
	}
	return best
}

// orders yields all orders of so many boils, ascending. An order is overwritten by the next one.
func orders(many int) iter.Seq[[]int] {
	return func(yield func(order []int) bool) {
		var longer func(order []int) bool
		longer = func(order []int) bool {
			if len(order) == many {
				return yield(order)
			}
			for boil := range many {
				if !slices.Contains(order, boil) && !longer(append(order, boil)) {
					return false
				}
			}
			return true
		}
		longer(make([]int, 0, many))
	}
}
