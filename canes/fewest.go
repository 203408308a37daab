package canes

import (
	"cmp"

	"ferrule/api"
)

// way is the greatest angle that goes with a least one, and the bend that was made last.
type way struct{ high, bend int }

// compare is less than 0 if a way is better than another one. Ways to the same
// angle are told apart by the bend, so that the order of a map decides nothing.
func (w way) compare(other way) int {
	return cmp.Or(w.high-other.high, w.bend-other.bend)
}

// fewest returns as few bends as surely end in the wanted angle. It makes one
// bend more after the other, in all ways, and keeps for each least angle the way
// with the least greatest one: what is bent later adds as much to all of them.
func (g game) fewest() ([]int, api.Errno) {
	angles := []map[int]way{{0: {}}}
	for made := range api.MaxBends + 1 {
		if made > 0 {
			angles = append(angles, g.bent(angles[made-1], made-1))
		}
		for low := g.want.Low; low <= g.want.High; low++ {
			if _, ok := angles[made][low]; ok {
				return g.traced(angles, low), api.OK
			}
		}
	}
	return nil, api.ErrNone
}

// bent are the angles after the bend with a number, without those that are too great already.
func (g game) bent(angles map[int]way, number int) map[int]way {
	bent := map[int]way{}
	for low, w := range angles {
		for bend := range g.possible(number) {
			next, now := low+gain(bend, g.last()), way{w.high + gain(bend, g.springs[0]), bend}
			old, ok := bent[next]
			if now.high <= g.want.High && (!ok || now.compare(old) < 0) {
				bent[next] = now
			}
		}
	}
	return bent
}

// traced are the bends that led to a least angle, one for each map of angles but the first one.
func (g game) traced(angles []map[int]way, low int) []int {
	bends := make([]int, len(angles)-1)
	for made := len(bends); made > 0; made-- {
		bend := angles[made][low].bend
		bends[made-1] = bend
		low -= gain(bend, g.last())
	}
	return bends
}

// last is the greatest truth, in which each angle is the least.
func (g game) last() int { return g.springs[len(g.springs)-1] }
