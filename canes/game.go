package canes

import (
	"iter"
	"slices"

	"ferrule/api"
)

// game is a cane with all of its truths, ascending, and a wanted angle; ends
// are those of the tasks that are known already.
type game struct {
	api.Cane
	springs []int
	want    api.Span
	ends    map[task]int
}

// open checks a cane, a wanted angle, and bends, and begins a game; it has at least one truth.
func open(c api.Cane, want api.Span, bends ...int) (game, api.Errno) {
	g := game{Cane: c, want: want, ends: map[task]int{}}
	if e := g.check(bends...); e != api.OK {
		return game{}, e
	}
	g.springs = slices.Collect(g.truths())
	if len(g.springs) == 0 {
		return game{}, api.ErrNone
	}
	return g, api.OK
}

// check returns the first error of the cane, the wanted angle, and bends.
func (g game) check(bends ...int) api.Errno {
	if e := Check(g.Cane); e != api.OK {
		return e
	}
	valid := func(bend int) bool { return within(bend, 1, api.MaxBend) }
	if !validSpan(g.want, api.MaxAngle) || len(bends) > api.MaxBends || !each(bends, valid) {
		return api.ErrArg
	}
	for number, bend := range bends {
		if bend > g.greatest(number) {
			return api.ErrCrack
		}
	}
	return api.OK
}

// greatest is the greatest possible bend with a number; if it is below 1, none is possible.
func (g game) greatest(number int) int { return g.Limit - g.Tire*number }

// possible yields all possible bends with a number, the greatest one first.
func (g game) possible(number int) iter.Seq[int] {
	return func(yield func(bend int) bool) {
		for bend := g.greatest(number); bend > 0; bend-- {
			if !yield(bend) {
				return
			}
		}
	}
}

// truths yields those of the cane, ascending.
func (g game) truths() iter.Seq[int] {
	return func(yield func(spring int) bool) {
		for spring := g.Spring.Low; spring <= g.Spring.High; spring++ {
			if g.untrue(spring) <= g.Wrong && !yield(spring) {
				return
			}
		}
	}
}

// untrue is how many bents are not true of a spring.
func (g game) untrue(spring int) int {
	many := 0
	for _, b := range g.Bents {
		if !in(b.Back, back(b.By, spring)) {
			many++
		}
	}
	return many
}
