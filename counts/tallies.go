package counts

import (
	"slices"

	"ferrule/api"
	"ferrule/gusts"
)

// test is a valid run of which something is asked.
type test struct{ api.Run }

// tally is what all meters count in a case, and behind these at asked of how many
// blows holds what is asked, as if another meter counted it.
type tally [api.MaxMeters + 1]int

const asked = api.MaxMeters

// question tells whether something holds of a blow if it has a force.
type question func(blow, force int) bool

// nothing is asked where only the meters matter.
func nothing(_, _ int) bool { return false }

// tallies are those of all cases, each with how many cases have it. There can be a
// hundred million cases, but only some thousands of tallies.
func (t test) tallies(holds question) map[tally]int {
	all := map[tally]int{{}: 1}
	for blow := range t.Blows {
		longer := map[tally]int{}
		alone := t.alone(blow, holds)
		for before, many := range all {
			for more, forces := range alone {
				longer[before.plus(more)] += many * forces
			}
		}
		all = longer
	}
	return all
}

// alone are the tallies of one blow, each with how many of its forces have it.
func (t test) alone(blow int, holds question) map[tally]int {
	all := map[tally]int{}
	for force := t.Blows[blow].Force.Low; force <= t.Blows[blow].Force.High; force++ {
		var counted tally
		for i, m := range t.Meters {
			if force >= m.Limit {
				counted[i] = 1
			}
		}
		if holds(blow, force) {
			counted[asked] = 1
		}
		all[counted]++
	}
	return all
}

func (c tally) plus(more tally) tally {
	for i, n := range more {
		c[i] += n
	}
	return c
}

// truths are the tallies of the cases that are part of a truth.
func (t test) truths(holds question) map[tally]int {
	all := t.tallies(holds)
	for counted := range all {
		if t.wrong(counted) > t.Wrong {
			delete(all, counted)
		}
	}
	return all
}

// wrong counts the meters that are not right.
func (t test) wrong(counted tally) int {
	wrong := 0
	for i, m := range t.Meters {
		if counted[i] != m.Count {
			wrong++
		}
	}
	return wrong
}

func (t test) fewest() int {
	fewest := len(t.Meters)
	for counted := range t.tallies(nothing) {
		fewest = min(fewest, t.wrong(counted))
	}
	return fewest
}

// isOpen tells whether there is a truth: the dome always has one.
func (t test) isOpen() bool { return t.fewest() <= t.Wrong }

// ends are the least and the greatest number of blows of which something holds, in a truth of a test that has one.
func (t test) ends(holds question) api.Span {
	s := api.Span{Low: len(t.Blows)}
	for counted := range t.truths(holds) {
		s.Low, s.High = min(s.Low, counted[asked]), max(s.High, counted[asked])
	}
	return s
}

// can tells whether a blow has a force in some truth.
func (t test) can(blow, force int) bool {
	return t.ends(func(b, f int) bool { return b == blow && f == force }).High > 0
}

// stands is what is known of whether the dome stands a blow if it has a force.
func (t test) stands(blow, force int) int {
	known, _ := gusts.Stands(t.Canopy, []api.Gust{{Force: force, At: t.Blows[blow].At}})
	return known
}

// shown are the forces of a truth: each blow has the least one with which there still is a truth.
func (t test) shown() []int {
	t.Blows = slices.Clone(t.Blows)
	var shown []int
blows:
	for blow, b := range t.Blows {
		for force := b.Force.Low; force <= b.Force.High; force++ {
			t.Blows[blow].Force = api.Span{Low: force, High: force}
			if t.isOpen() {
				shown = append(shown, force)
				continue blows
			}
		}
	}
	return shown
}
