package stands

import "ferrule/api"

// nobody stands for a guest to be asked if there is none.
const nobody = -1

// asking finds out after how many questions it can be known which one of some takings
// it was. What it has found out stands in a map, as other orders of the same questions
// lead to the same takings.
type asking struct {
	guests int
	found  map[state]bool
}

// state is what guests have answered, 1 more than the umbrella (0: the guest was not
// asked), and how many questions are left.
type state struct {
	answers [api.MaxGuests]int
	left    int
}

func newAsking(guests int) *asking { return &asking{guests, map[state]bool{}} }

// least is the least number of questions after which it can be known.
func (a *asking) least(takings [][]int) int {
	n := 0
	for !a.canBeKnown(takings, n) {
		n++
	}
	return n
}

// canBeKnown tells whether it can be known with as many questions as are left. In all
// the takings each guest that was asked took the same umbrella.
func (a *asking) canBeKnown(takings [][]int, left int, asked ...int) bool {
	others := a.guests - len(asked)
	if len(takings) <= left+1 || others <= left+1 {
		return true // each question can leave one taking less; the last guest need not be asked
	}
	if len(takings) > answersOf(others, left) {
		return false
	}
	s := state{left: left}
	for _, guest := range asked {
		s.answers[guest] = 1 + takings[0][guest]
	}
	known, ok := a.found[s]
	if !ok {
		known = a.first(takings, left, asked...) != nobody
		a.found[s] = known
	}
	return known
}

// first is the first guest that can be asked next such that it can be known with as many questions as are left.
func (a *asking) first(takings [][]int, left int, asked ...int) int {
guests:
	for guest := range a.guests {
		told := answers(takings, guest)
		if len(told) < 2 { // nothing would be learnt from it
			continue
		}
		for _, rest := range told {
			if !a.canBeKnown(rest, left-1, withMore(asked, guest)...) {
				continue guests
			}
		}
		return guest
	}
	return nobody
}

// answers are the umbrellas that a guest took in some takings, with the takings in which it took each of them.
func answers(takings [][]int, guest int) map[int][][]int {
	told := map[int][][]int{}
	for _, taking := range takings {
		told[taking[guest]] = append(told[taking[guest]], taking)
	}
	return told
}

// answersOf is how many different answers there can be to so many questions to some guests: no two take the same umbrella.
func answersOf(guests, questions int) int {
	many := 1
	for i := range questions {
		many *= guests - i
	}
	return many
}
