package forewoman

import (
	"slices"

	"ferrule/api"
	"ferrule/orders"
	"ferrule/parts"
)

func (w *work) trial(n []int) string {
	shop := w.Shop
	shop.Workshop.Table = append(shop.Workshop.Table, api.Trial{Spare: n[0], Make: n[1], Slot: n[2], Fits: n[3]})
	if parts.Check(shop.Workshop) != api.OK {
		return refused
	}
	// any question tells whether there is a truth
	if _, e := parts.Length(shop.Workshop, n[0]); e != api.OK {
		return liar
	}
	w.Shop = shop
	return accepted
}

func (w *work) fits(n []int) string {
	known, e := parts.Fits(w.Shop.Workshop, n[0], n[1], n[2])
	if e != api.OK {
		return say(e)
	}
	return [...]string{api.Surely: "surely", api.Never: "never", api.Perhaps: "perhaps"}[known]
}

func (w *work) stock(n []int) string {
	spare, many := n[0], n[1]
	if spare >= len(w.Shop.Stock) {
		return refused
	}
	shop := w.Shop
	shop.Stock = slices.Clone(shop.Stock)
	shop.Stock[spare] += many
	return w.change(shop)
}

func (w *work) comes(n []int) string {
	shop := w.Shop
	shop.Deliveries = append(shop.Deliveries, api.Delivery{Day: n[0], Spare: n[1], Many: n[2]})
	return w.change(shop)
}

func (w *work) piece(n []int) string {
	shop := w.Shop
	shop.Pieces = append(shop.Pieces, api.Piece{Color: n[0], Size: n[1], Letter: n[2], Make: n[3], Broken: n[4:]})
	return w.change(shop)
}

func (w *work) wish(n []int) string {
	shop := w.Shop
	size := api.Span{Low: n[0], High: n[1]}
	shop.Wishes = append(shop.Wishes, api.Wish{Colors: n[5:], Size: size, Letter: n[2], Due: n[3], Price: n[4]})
	return w.change(shop)
}

func (w *work) drop(n []int) string {
	wish := n[0]
	if wish >= len(w.Shop.Wishes) {
		return refused
	}
	w.Shop.Wishes = slices.Delete(w.Shop.Wishes, wish, wish+1)
	return accepted
}

// change makes a shop that of the desk, if it is valid.
func (w *work) change(shop api.Shop) string {
	e := orders.Check(shop)
	if e == api.OK {
		w.Shop = shop
	}
	return sayDone(e)
}

func (w *work) can(n []int) string { return sayList(orders.Can(w.Shop, n[0])) }

// takes is asked with the number of each piece more by 1, so that 0 says that a wish has none.
func (w *work) takes(n []int) string {
	var plan []int
	for _, piece := range n {
		plan = append(plan, piece-1)
	}
	return sayNumber(orders.Takes(w.Shop, plan))
}

func (w *work) most([]int) string { return sayNumber(orders.Most(w.Shop)) }

func (w *work) extra([]int) string { return sayNumber(orders.Extra(w.Shop)) }
