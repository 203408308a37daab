package seams

import (
	"ferrule/api"
	"ferrule/cloth"
)

// pulled is a ring with all lengths, modulo Period, that Run has in some truth
// when it is pulled, for each bolt. A seam depends on one gore's bolt alone.
type pulled struct {
	ring
	runs [][]int
}

func checkAndPull(f api.Figure) (pulled, api.Errno) {
	if e := Check(f); e != api.OK {
		return pulled{}, e
	}
	return pull(f)
}

// pull returns ErrNone if the dome of a valid figure has no truth.
func pull(f api.Figure) (pulled, api.Errno) {
	p := pulled{ring: ring{f}}
	for bolt := range f.Dome.Bolts {
		stretches, e := cloth.Stretches(f.Dome, bolt)
		if e != api.OK {
			return pulled{}, e
		}
		p.runs = append(p.runs, p.lengths(stretches))
	}
	return p, api.OK
}

// lengths are those to which stretches pull the Run, modulo Period; one of them can be there more than once.
func (p pulled) lengths(stretches []int) []int {
	var lengths []int
	for _, stretch := range stretches {
		lengths = append(lengths, p.Run*(1000+stretch)/1000%p.Period)
	}
	return lengths
}

// of are the lengths that the Run of a gore has.
func (p pulled) of(gore int) []int { return p.runs[p.Dome.Gores[gore]] }

func (p pulled) meets(seam int) int {
	runs, next := p.of(seam), p.Starts[p.at(seam+1)]
	many := 0
	for _, run := range runs {
		end := (p.Starts[seam] + run) % p.Period
		if p.distance(end, next) <= p.Near {
			many++
		}
	}
	switch many {
	case len(runs):
		return api.Surely
	case 0:
		return api.Never
	}
	return api.Perhaps
}

// steps are the numbers by which the next gore can start farther than this
// one, modulo Period, such that the seam between them surely meets.
func (p pulled) steps(gore, near int) []int {
	var steps []int
	for step := range p.Period {
		if p.isNear(step, p.of(gore), near) {
			steps = append(steps, step)
		}
	}
	return steps
}

func (p pulled) isNear(step int, runs []int, near int) bool {
	for _, run := range runs {
		if p.distance(step, run) > near {
			return false
		}
	}
	return true
}

// closest tries one Near after another: with Period / 2 all seams meet.
func (p pulled) closest() int {
	for near := range p.Period / 2 {
		if p.closes(near) {
			return near
		}
	}
	return p.Period / 2
}

// closes tells whether steps lead around the ring to the start from which they come.
func (p pulled) closes(near int) bool {
	sums := map[int]bool{0: true}
	for gore := range p.Starts {
		steps := p.steps(gore, near)
		longer := map[int]bool{}
		for sum := range sums {
			for _, step := range steps {
				longer[(sum+step)%p.Period] = true
			}
		}
		sums = longer
	}
	return sums[0]
}
