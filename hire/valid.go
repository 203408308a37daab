package hire

import (
	"slices"

	"ferrule/api"
)

func validCounter(c api.Counter) bool {
	return len(c.Clerks) <= api.MaxClerks && each(c.Clerks, validWatch) &&
		len(c.Slips) <= api.MaxSlips && each(c.Slips, func(s api.Slip) bool { return validSlip(c, s) }) &&
		len(c.Voided) <= api.MaxSlips && each(c.Voided, isGuest) &&
		validClosed(c.Closed) && validTariff(c.Tariff)
}

func validWatch(s api.Span) bool {
	return within(s.Low, -api.MaxSlow, s.High) && s.High <= api.MaxSlow
}

func validSlip(c api.Counter, s api.Slip) bool {
	return isGuest(s.Id) && isClerk(c, s.Clerk) && isAt(s.At) && isUmbrella(s.Umbrella) &&
		(s.Kind == api.Lent && isGuest(s.Guest) || s.Kind == api.Returned && s.Guest == 0)
}

func validClosed(closed []api.Span) bool {
	if len(closed) > api.MaxClosed {
		return false
	}
	before := -1
	for _, s := range closed {
		if s.Low <= before || s.Low > s.High || s.High > api.MaxAt {
			return false
		}
		before = s.High
	}
	return true
}

func validTariff(t api.Tariff) bool {
	return isAt(t.Free) && within(t.Unit, 1, api.MaxAt) && within(t.Lost, 1, api.MaxAt) &&
		each([]int{t.Price, t.Most, t.Value, t.Pledge}, func(cents int) bool { return within(cents, 0, api.MaxCents) })
}

// isGuest tells whether a number is one of a guest, or an Id: these have the same bounds.
func isGuest(n int) bool { return within(n, 0, api.MaxGuest) }

func isAt(n int) bool { return within(n, 0, api.MaxAt) }

func isUmbrella(n int) bool { return within(n, 0, api.MaxUmbrella) }

func isClerk(c api.Counter, clerk int) bool { return within(clerk, 0, len(c.Clerks)-1) }

// isLent tells whether an Id is that of a slip that counts, of an umbrella that went out.
func isLent(c api.Counter, id int) bool {
	return !slices.Contains(c.Voided, id) && slices.ContainsFunc(c.Slips, func(s api.Slip) bool {
		return s.Id == id && s.Kind == api.Lent
	})
}

func within(n, low, high int) bool { return low <= n && n <= high }

// each tells whether something holds of all elements of a list.
func each[E any](list []E, holds func(E) bool) bool {
	for _, x := range list {
		if !holds(x) {
			return false
		}
	}
	return true
}
