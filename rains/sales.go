package rains

import (
	"iter"
	"math"
	"slices"

	"ferrule/api"
)

// sale is what a trader has taken, and what is left to be sold.
type sale struct{ money, stock int }

func (s sale) takings() int { return s.money }

func (s sale) unsold() int { return s.stock }

// after is the sale after a day at a market, with a level of rain.
func (s sale) after(f api.Fair, level int) sale {
	sold := min(f.Sells[level], s.stock)
	return sale{s.money + sold*f.Price, s.stock - sold}
}

// routes yields all routes; what is kept of them must be cloned.
func (w weather) routes() iter.Seq[[]int] { return rows(w.Days, len(w.Fairs)-1, w.Reach) }

// sales yields what a route comes to in each truth. Only the days since which a truth is
// another one than that before it are gone through again.
func (w weather) sales(route []int) iter.Seq[sale] {
	return func(yield func(sale) bool) {
		var days [api.MaxDays + 1]sale
		days[0] = sale{stock: w.Stock}
		for _, x := range w.truths {
			for day := x.since; day < w.Days; day++ {
				days[day+1] = days[day].after(w.Fairs[route[day]], x.levels[day])
			}
			if !yield(days[w.Days]) {
				return
			}
		}
	}
}

// ends are the least and the greatest number that is asked of the sale along a route.
func (w weather) ends(route []int, asked func(sale) int) api.Span {
	s := api.Span{Low: math.MaxInt, High: math.MinInt}
	for x := range w.sales(route) {
		n := asked(x)
		s.Low, s.High = min(s.Low, n), max(s.High, n)
	}
	return s
}

// best is the first one of the routes whose least takings are the greatest, and these.
func (w weather) best() (route []int, takings int) {
	takings = -1
	for r := range w.routes() {
		if w.more(r, takings) {
			route, takings = slices.Clone(r), w.ends(r, sale.takings).Low
		}
	}
	return route, takings
}

// more tells whether a route surely takes more than some takings.
func (w weather) more(route []int, takings int) bool {
	for x := range w.sales(route) {
		if x.takings() <= takings {
			return false
		}
	}
	return true
}
