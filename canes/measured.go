package canes

import (
	"iter"

	"ferrule/api"
)

// task is what is known when some bends have been made and measured: the
// angle, how many bends that were, how many more can be made, and the number of
// the first truth that is left.
type task struct{ angle, made, left, first int }

// group is truths of which a bend springs back by the same: they are the
// numbers from the first to just before the end.
type group struct{ back, first, end int }

// measured returns the least number of bends with which the wanted angle can be measured out, and the first one of them.
func (g game) measured() (int, int, api.Errno) {
	for many := range api.MaxBends + 1 {
		if end, bend := g.best(task{left: many}); end == len(g.springs) {
			return many, bend, api.OK
		}
	}
	return 0, 0, api.ErrNone
}

// end is the end of the truths, from the first one of a task on, for all of
// which together it can be measured out. What can be for some truths can be for
// fewer ones too, so these ends say it of all truths between two ones.
func (g game) end(t task) int {
	if end, ok := g.ends[t]; ok {
		return end
	}
	end, _ := g.best(t)
	g.ends[t] = end
	return end
}

// best is the end of a task, and the next bend that leads there; 0 if none is needed, or none does.
func (g game) best(t task) (int, int) {
	if in(g.want, t.angle) {
		return len(g.springs), 0
	}
	end, best := t.first, 0
	if t.angle > g.want.High || t.angle+g.most(t) < g.want.Low {
		return end, best
	}
bends:
	for bend := range g.possible(t.made) {
		for x := range g.groups(bend, t.first) {
			reached := g.end(task{t.angle + bend - x.back, t.made + 1, t.left - 1, x.first})
			if reached < x.end {
				if reached > end {
					end, best = reached, bend
				}
				continue bends
			}
		}
		return len(g.springs), bend
	}
	return end, best
}

// most is by how much all bends that are left can make the angle greater in the
// first truth of a task, in which they do so most; 0 if none is left.
func (g game) most(t task) int {
	sum := 0
	for number := range t.left {
		if bend := g.greatest(t.made + number); bend > 0 {
			sum += gain(bend, g.springs[t.first])
		}
	}
	return sum
}

// groups yields the groups of the truths from a first one on, ascending. As no
// bend springs back by less of a greater spring, each has no gap.
func (g game) groups(bend, first int) iter.Seq[group] {
	return func(yield func(x group) bool) {
		for first < len(g.springs) {
			x := group{back(bend, g.springs[first]), first, first + 1}
			for x.end < len(g.springs) && back(bend, g.springs[x.end]) == x.back {
				x.end++
			}
			if !yield(x) {
				return
			}
			first = x.end
		}
	}
}
