package stands

import (
	"slices"

	"ferrule/api"
)

// truths are all takings in which no more words are not so than may be wrong.
func truths(s api.Stand) [][]int {
	var words []func(taking []int) bool
	for _, w := range s.Words {
		words = append(words, isSo(w))
	}
	var list [][]int
	for _, taking := range takings(s.Guests) {
		if wrong(words, taking) <= s.Wrong {
			list = append(list, taking)
		}
	}
	return list
}

// takings are all ways in which guests can take umbrellas, each umbrella once.
func takings(guests int) [][]int {
	list := [][]int{nil}
	for range guests {
		var longer [][]int
		for _, taking := range list {
			for umbrella := range guests {
				if !slices.Contains(taking, umbrella) {
					longer = append(longer, withMore(taking, umbrella))
				}
			}
		}
		list = longer
	}
	return list
}

// withMore is a list with one more number, in memory of its own: other lists go on after the same one.
func withMore(list []int, n int) []int { return append(list[:len(list):len(list)], n) }

// wrong counts the words that are not so in a taking.
func wrong(words []func(taking []int) bool, taking []int) int {
	many := 0
	for _, isSo := range words {
		if !isSo(taking) {
			many++
		}
	}
	return many
}

// isSo gives what tells whether a word is so in a taking.
func isSo(w api.Word) func(taking []int) bool {
	switch w.Kind {
	case api.Took:
		return func(taking []int) bool { return slices.Contains(w.Among, taking[w.Guest]) }
	case api.NotTook:
		return func(taking []int) bool { return !slices.Contains(w.Among, taking[w.Guest]) }
	case api.Swapped:
		return func(taking []int) bool { return taking[w.Guest] == w.Other && taking[w.Other] == w.Guest }
	}
	return func(taking []int) bool { return taking[w.Guest] == w.Guest || taking[w.Other] == w.Other }
}
