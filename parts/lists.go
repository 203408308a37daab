package parts

import "slices"

// fewest are the lists that mend all with as few spares as can be; none if no list does.
func (s shop) fewest() [][]int {
	var lists [][]int
	for list := range s.mending {
		if len(lists) > 0 && len(list) > len(lists[0]) {
			continue
		}
		if len(lists) > 0 && len(list) < len(lists[0]) {
			lists = nil
		}
		lists = append(lists, list)
	}
	return lists
}

// mending yields all lists that mend all: those with a spare for each slot that
// surely fits it. If none of a list surely does, there is a truth in which each
// of them has a length that does not fit.
func (s shop) mending(yield func(list []int) bool) {
	var needs [][]int // for each slot the spares that surely fit it
	for maker, m := range s.Makes {
		for slot := range m.Slots {
			needs = append(needs, s.fitting(maker, slot))
		}
	}
lists:
	for number := range 1 << len(s.Spares) {
		list := numbersThat(len(s.Spares), func(spare int) bool { return number>>spare&1 == 1 })
		for _, fitting := range needs {
			if !slices.ContainsFunc(list, func(spare int) bool { return slices.Contains(fitting, spare) }) {
				continue lists
			}
		}
		if !yield(list) {
			return
		}
	}
}
