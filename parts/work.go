package parts

import (
	"slices"

	"ferrule/api"
)

// none is the spare of a job that has none.
const none = -1

// work gives jobs spares of a stock.
type work struct {
	fitting [][]int // for each job the spares that surely fit its slot
	left    []int   // how many of each spare are left in the stock
	given   []int   // for each job its spare
}

// work gives as many jobs a spare as can be. A job that gets none stays without
// one: what the others get afterwards does not help it.
func (s shop) work(stock []int, jobs []api.Job) work {
	x := work{left: slices.Clone(stock)}
	for _, j := range jobs {
		x.fitting = append(x.fitting, s.fitting(j.Make, j.Slot))
		x.given = append(x.given, none)
	}
	for job := range jobs {
		x.give(job, make([]bool, len(stock)))
	}
	return x
}

// give tells whether a job can be given a spare that has not been tried yet, be
// it one that another job has and can give away for another one, and gives it.
// Otherwise it only marks what was tried.
func (x *work) give(job int, tried []bool) bool {
	for _, spare := range x.fitting[job] {
		if tried[spare] {
			continue
		}
		tried[spare] = true
		if x.left[spare] > 0 {
			x.left[spare]--
			x.given[job] = spare
			return true
		}
		for other, has := range x.given {
			if has == spare && x.give(other, tried) {
				x.given[job] = spare
				return true
			}
		}
	}
	return false
}

// most is how many jobs have a spare.
func (x *work) most() int {
	many := 0
	for _, spare := range x.given {
		if spare != none {
			many++
		}
	}
	return many
}

// short are the jobs without a spare, and those whose spare was tried in vain
// for them. So each spare that fits one of these jobs was tried: none of it is
// left, and all of it is given to these jobs.
func (x *work) short() []int {
	tried := make([]bool, len(x.left))
	for job, spare := range x.given {
		if spare == none {
			x.give(job, tried)
		}
	}
	return numbersThat(len(x.given), func(job int) bool {
		spare := x.given[job]
		return spare == none || tried[spare]
	})
}
