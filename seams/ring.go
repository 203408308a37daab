package seams

import "ferrule/api"

// ring is a valid figure, whose gores and seams are counted around it.
type ring struct {
	api.Figure
}

// at is the number of the gore or the seam to which so many steps lead from the number 0.
func (r ring) at(steps int) int { return steps % len(r.Times) }

// distance is how far two numbers below Period are from each other, the shorter way around.
func (r ring) distance(a, b int) int {
	d := max(a-b, b-a)
	return min(d, r.Period-d)
}
