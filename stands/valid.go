package stands

import (
	"slices"

	"ferrule/api"
)

func validStand(s api.Stand) bool {
	return within(s.Guests, 0, api.MaxGuests) && within(s.Wrong, 0, api.MaxGuests)
}

func validWords(s api.Stand) bool {
	return len(s.Words) <= api.MaxWords && each(s.Words, func(w api.Word) bool { return validWord(s, w) })
}

func validWord(s api.Stand, w api.Word) bool {
	if !isGuest(s, w.Guest) || !isGuest(s, w.Other) {
		return false
	}
	switch w.Kind {
	case api.Took, api.NotTook:
		return w.Other == 0 && len(w.Among) > 0 && validAmong(s, w.Among)
	case api.Swapped, api.Kept:
		return w.Other != w.Guest && len(w.Among) == 0
	}
	return false
}

func validAmong(s api.Stand, among []int) bool {
	before := -1
	for _, umbrella := range among {
		if !within(umbrella, before+1, s.Guests-1) {
			return false
		}
		before = umbrella
	}
	return true
}

func isGuest(s api.Stand, guest int) bool { return within(guest, 0, s.Guests-1) }

func isTaking(taking []int) bool {
	if len(taking) > api.MaxGuests {
		return false
	}
	for umbrella := range len(taking) {
		if !slices.Contains(taking, umbrella) {
			return false
		}
	}
	return true
}

func within(n, low, high int) bool { return low <= n && n <= high }

// each tells whether something holds of all elements of a list.
func each[E any](list []E, holds func(E) bool) bool {
	for _, x := range list {
		if !holds(x) {
			return false
		}
	}
	return true
}
