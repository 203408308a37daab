package seams

import "math"

// arc is how soon all of some seams in a row can have ended, and which one of
// them is then begun last.
//
// The seam that is begun last occupies all gores of the arc, so all others
// must have ended. Those before it and those behind it occupy no gore in
// common, and so they are sewn at the same time, each side as soon as it can be.
type arc struct{ end, last int }

// plan returns a schedule that ends soonest, and its end.
func (r ring) plan() ([]int, int) {
	arcs := r.arcs()
	begins := make([]int, len(r.Times))
	var rest func(first, many int)
	rest = func(first, many int) {
		if many == 0 {
			return
		}
		a := arcs[many][first]
		begins[a.last] = a.end - r.Times[a.last]
		before := r.at(a.last - first + len(r.Times))
		rest(first, before)
		rest(r.at(a.last+1), many-1-before)
	}
	whole := r.whole(arcs)
	begins[whole.last] = whole.end - r.Times[whole.last]
	rest(r.at(whole.last+1), len(r.Times)-1)
	return begins, whole.end
}

// whole is the arc of all seams: the one that is begun last closes the ring.
func (r ring) whole(arcs [][]arc) arc {
	longest := arcs[len(arcs)-1]
	best := arc{end: math.MaxInt}
	for last, time := range r.Times {
		end := longest[r.at(last+1)].end + time
		if end < best.end {
			best = arc{end, last}
		}
	}
	return best
}

// arcs are all arcs by how many seams they have, up to all but one, and by the first of these.
func (r ring) arcs() [][]arc {
	arcs := [][]arc{make([]arc, len(r.Times))}
	for len(arcs) < len(r.Times) {
		longer := make([]arc, len(r.Times))
		for first := range longer {
			longer[first] = r.soonest(arcs, first)
		}
		arcs = append(arcs, longer)
	}
	return arcs
}

// soonest is the arc from a seam on that has one seam more than those that are known.
func (r ring) soonest(arcs [][]arc, first int) arc {
	best := arc{end: math.MaxInt}
	for before := range arcs {
		last := r.at(first + before)
		behind := arcs[len(arcs)-1-before][r.at(last+1)]
		end := max(arcs[before][first].end, behind.end) + r.Times[last]
		if end < best.end {
			best = arc{end, last}
		}
	}
	return best
}
