package gusts

import (
	"iter"
	"slices"

	"ferrule/api"
)

// gone are the ribs that are gone at the end, ascending.
func (t truth) gone(g api.Gust) []int {
	var gone []int
	for going := range t.rounds(g) {
		gone = append(gone, going...)
	}
	slices.Sort(gone)
	return gone
}

// rounds yields for each round the ribs that go in it. In the first one no rib
// hands anything to another one yet, so it needs no rule of its own.
func (t truth) rounds(g api.Gust) iter.Seq[[]int] {
	return func(yield func(going []int) bool) {
		gone := make([]bool, len(t.strengths))
		for {
			going := ribsThat(len(gone), func(rib int) bool {
				return !gone[rib] && t.load(g, rib)+t.handed(g, gone, rib) > t.strengths[rib]
			})
			if len(going) == 0 || !yield(going) {
				return
			}
			for _, rib := range going {
				gone[rib] = true
			}
		}
	}
}

// handed is what a rib that stands gets from those that are gone. Each side ends
// at the next rib that stands, which is the rib itself if no other one does.
func (t truth) handed(g api.Gust, gone []bool, rib int) int {
	handed := 0
	for _, side := range [2]int{-1, 1} {
		sum := 0
		for next := t.around(rib + side); gone[next]; next = t.around(next + side) {
			sum += t.load(g, next)
		}
		handed += sum / 2
	}
	return handed
}

// stands tells whether no rib goes in any of some gusts; if one goes, some go in the first round.
func (t truth) stands(gusts ...api.Gust) bool {
	return each(gusts, func(g api.Gust) bool { return len(t.tooWeak(g)) == 0 })
}

// tooWeak are the ribs that go in the first round, ascending.
func (t truth) tooWeak(g api.Gust) []int {
	return ribsThat(len(t.strengths), func(rib int) bool { return t.isTooWeak(g, rib) })
}

func (t truth) isTooWeak(g api.Gust, rib int) bool { return t.load(g, rib) > t.strengths[rib] }

// ribsThat returns the ribs of which something holds, ascending.
func ribsThat(many int, holds func(rib int) bool) []int {
	var ribs []int
	for rib := range many {
		if holds(rib) {
			ribs = append(ribs, rib)
		}
	}
	return ribs
}
