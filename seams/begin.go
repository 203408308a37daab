package seams

import (
	"cmp"
	"math"
	"slices"

	"ferrule/api"
)

// way is the starts of the first gores, and what they waste.
type way struct {
	starts []int
	waste  int
}

// longer adds a start. Several ways go on from the same starts, so what is
// behind them must not be shared.
func (w way) longer(start int) way {
	n := len(w.starts)
	return way{append(w.starts[:n:n], start), w.waste + start}
}

// compare is less than 0 if a way is better than another one. Of ways with the
// same waste one is better too, so that the order of a map decides nothing.
func (w way) compare(x way) int {
	return cmp.Or(w.waste-x.waste, slices.Compare(w.starts, x.starts))
}

// begin returns the beginnings with the least waste.
func (p pulled) begin() ([]int, api.Errno) {
	var steps [][]int
	for gore := range p.Starts {
		steps = append(steps, p.steps(gore, p.Near))
	}
	best := way{waste: math.MaxInt}
	for start := range p.Period {
		if w, ok := p.around(start, steps, best.waste); ok {
			best = w
		}
	}
	if best.starts == nil {
		return nil, api.ErrNone
	}
	return best.starts, api.OK
}

// around returns the best way around the ring from a start of the gore 0, if its waste is below a number.
func (p pulled) around(start int, steps [][]int, below int) (way, bool) {
	ways := map[int]way{start: {}}
	for gore := range len(p.Starts) {
		ways = p.longer(ways, steps[gore], below)
	}
	w, ok := ways[start]
	return w, ok
}

// longer makes ways longer by a gore. They stand at the start of the gore
// behind them, each of these with the best of its ways only.
func (p pulled) longer(ways map[int]way, steps []int, below int) map[int]way {
	longer := map[int]way{}
	for start, w := range ways {
		w = w.longer(start)
		if w.waste >= below {
			continue
		}
		for _, step := range steps {
			next := (start + step) % p.Period
			old, ok := longer[next]
			if !ok || w.compare(old) < 0 {
				longer[next] = w
			}
		}
	}
	return longer
}
