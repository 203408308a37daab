package gusts

import (
	"ferrule/api"
	"ferrule/frames"
)

// truth is a valid dome of which all is known: its lift, and the strength of each rib.
type truth struct {
	lift              int
	strengths, shares []int
}

// open checks a dome and gusts, and returns two truths of the dome: the best
// one has the least lift and the strongest ribs, the worst one the greatest
// lift and the weakest ribs. No load becomes less with a greater lift, nor with
// another rib that is gone; so a rib that goes in the best truth goes in each
// one, and a rib that goes in some truth goes in the worst one too.
func open(d api.Canopy, gusts ...api.Gust) (best, worst truth, e api.Errno) {
	if e := checkGusts(d, gusts...); e != api.OK {
		return truth{}, truth{}, e
	}
	lift := lifts(d.Frame)
	best = truth{lift: lift.Low, shares: d.Shares}
	worst = truth{lift: lift.High, shares: d.Shares}
	for _, strength := range d.Ribs {
		best.strengths = append(best.strengths, strength.High)
		worst.strengths = append(worst.strengths, strength.Low)
	}
	return best, worst, api.OK
}

// lifts are the least and the greatest lift of a valid frame. It always has a
// cosine there, as the distance of its first section is its Low position.
func lifts(f api.Frame) api.Span {
	low, high, _ := frames.Cosine(f, 0, f.Low)
	return api.Span{Low: liftOf(low), High: liftOf(high)}
}

// liftOf raises what is below 0 before it divides, such that this always rounds down.
func liftOf(cosine api.Frac) int {
	lift := max(0, api.MaxLift*(cosine.Den+cosine.Num)) / cosine.Den
	return min(lift, 2*api.MaxLift)
}

// load is the own load of a rib.
func (t truth) load(g api.Gust, rib int) int {
	return g.Force * t.lift * t.shares[t.around(rib-g.At)] / api.MaxLift
}

// around is the number of a rib that is counted on, or back, beyond the ends of the ring by less than once around.
func (t truth) around(rib int) int {
	many := len(t.strengths)
	return (rib + many) % many
}
