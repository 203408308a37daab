package orders

import "ferrule/api"

// check checks a shop, and is told whether the arguments beside it are valid.
func check(s api.Shop, valid bool) api.Errno {
	if e := Check(s); e != api.OK {
		return e
	}
	if !valid {
		return api.ErrArg
	}
	return api.OK
}

// validShop asks whether a shop is valid whose workshop is.
func validShop(s api.Shop) bool {
	return len(s.Stock) == len(s.Workshop.Spares) &&
		each(s.Stock, func(many int) bool { return within(many, 0, api.MaxJobs) }) &&
		len(s.Pieces) <= api.MaxPieces &&
		each(s.Pieces, func(p api.Piece) bool { return validPiece(s.Workshop, p) }) &&
		len(s.Wishes) <= api.MaxWishes && each(s.Wishes, validWish) &&
		len(s.Deliveries) <= api.MaxDeliveries &&
		each(s.Deliveries, func(d api.Delivery) bool {
			return isDay(d.Day) && within(d.Spare, 0, len(s.Stock)-1) && within(d.Many, 1, api.MaxJobs)
		}) &&
		isDay(s.Carve)
}

func validPiece(w api.Workshop, p api.Piece) bool {
	if !isMark(p.Color) || !isMark(p.Size) || !isMark(p.Letter) || !within(p.Make, 0, len(w.Makes)-1) {
		return false
	}
	slots := len(w.Makes[p.Make].Slots)
	return ascends(p.Broken) && each(p.Broken, func(slot int) bool { return within(slot, 0, slots-1) })
}

func validWish(w api.Wish) bool {
	return within(len(w.Colors), 1, api.MaxColors) && each(w.Colors, isMark) && ascends(w.Colors) &&
		within(w.Size.Low, 0, w.Size.High) && isMark(w.Size.High) &&
		isMark(w.Letter) && isDay(w.Due) && within(w.Price, 0, api.MaxPrice)
}

func isMark(n int) bool { return within(n, 0, api.MaxMark) }

// isDay tells whether a number is one of a day, or of days: these have the same bounds.
func isDay(n int) bool { return within(n, 0, api.MaxDue) }

func isWish(s api.Shop, wish int) bool { return within(wish, 0, len(s.Wishes)-1) }

func isPiece(s api.Shop, piece int) bool { return within(piece, 0, len(s.Pieces)-1) }

func isDelivery(s api.Shop, delivery int) bool { return within(delivery, 0, len(s.Deliveries)-1) }

func isPlan(s api.Shop, plan []int) bool {
	taken := map[int]bool{}
	for _, piece := range plan {
		if piece != none && (!isPiece(s, piece) || taken[piece]) {
			return false
		}
		taken[piece] = true
	}
	return len(plan) == len(s.Wishes)
}

// ascends tells whether each number of a list is greater than the one before it.
func ascends(list []int) bool {
	for i := range len(list) - 1 {
		if list[i] >= list[i+1] {
			return false
		}
	}
	return true
}

func within(n, low, high int) bool { return low <= n && n <= high }

// each tells whether something holds of all elements of a list.
func each[E any](list []E, holds func(E) bool) bool {
	for _, x := range list {
		if !holds(x) {
			return false
		}
	}
	return true
}
