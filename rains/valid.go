package rains

import "ferrule/api"

// validTour looks at all of a tour but at what a forecast and a market are.
func validTour(t api.Tour) bool {
	return within(t.Days, 1, api.MaxDays) && within(t.Step, 0, api.MaxRain) &&
		within(t.Wrong, 0, api.MaxRains) && within(t.Reach, 0, api.MaxFairs) && within(t.Stock, 0, api.MaxStock) &&
		len(t.Rains) <= api.MaxRains && within(len(t.Fairs), 1, api.MaxFairs)
}

func validRain(t api.Tour, r api.Rain) bool {
	return isDay(t, r.Day) && within(r.Level.Low, 0, r.Level.High) && r.Level.High <= api.MaxRain
}

func validFair(f api.Fair) bool {
	return within(f.Price, 0, api.MaxPay) && len(f.Sells) == api.MaxRain+1 &&
		each(f.Sells, func(sold int) bool { return within(sold, 0, api.MaxSold) })
}

func isDay(t api.Tour, day int) bool { return within(day, 0, t.Days-1) }

func isRain(t api.Tour, rain int) bool { return within(rain, 0, len(t.Rains)-1) }

func isFair(t api.Tour, fair int) bool { return within(fair, 0, len(t.Fairs)-1) }

func isRoute(t api.Tour, route []int) bool {
	if len(route) != t.Days || !each(route, func(fair int) bool { return isFair(t, fair) }) {
		return false
	}
	for day := 1; day < len(route); day++ {
		if !near(route[day-1], route[day], t.Reach) {
			return false
		}
	}
	return true
}

// near tells whether two numbers differ by at most so much.
func near(a, b, most int) bool { return within(a-b, -most, most) }

func within(n, low, high int) bool { return low <= n && n <= high }

// each tells whether something holds of all elements of a list.
func each[E any](list []E, holds func(E) bool) bool {
	for _, x := range list {
		if !holds(x) {
			return false
		}
	}
	return true
}
