package canes

import (
	"slices"

	"ferrule/api"
)

func validCane(c api.Cane) bool {
	return validSpan(c.Spring, api.MaxSpring) && c.Spring.High-c.Spring.Low <= api.MaxSpread &&
		len(c.Bents) <= api.MaxBents && each(c.Bents, validBent) &&
		within(c.Wrong, 0, api.MaxFalse) &&
		within(c.Limit, 1, api.MaxBend) &&
		within(c.Tire, 0, api.MaxBend)
}

func validBent(b api.Bent) bool {
	return within(b.By, 1, api.MaxBend) && validSpan(b.Back, api.MaxBend)
}

func validSteamer(s api.Steamer) bool {
	return within(s.Room, 1, api.MaxRoom) && len(s.Boils) <= api.MaxBoils && each(s.Boils, validBoil)
}

func validBoil(b api.Boil) bool {
	return within(b.Soak, 0, api.MaxSoak) && within(b.Bend, 0, api.MaxSoak)
}

// isOrder tells whether an order has each of so many boils once.
func isOrder(order []int, many int) bool {
	if len(order) != many {
		return false
	}
	for boil := range many {
		if !slices.Contains(order, boil) {
			return false
		}
	}
	return true
}

func validSpan(s api.Span, greatest int) bool {
	return within(s.Low, 0, s.High) && s.High <= greatest
}

func in(s api.Span, n int) bool { return within(n, s.Low, s.High) }

func within(n, low, high int) bool { return low <= n && n <= high }

// each tells whether something holds of all elements of a list.
func each[E any](list []E, holds func(E) bool) bool {
	for _, x := range list {
		if !holds(x) {
			return false
		}
	}
	return true
}
