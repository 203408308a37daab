package orders

import (
	"slices"

	"ferrule/api"
)

// unfilled is more than the spares that any plan can lack.
const unfilled = api.MaxWishes*api.MaxSlots + 1

// filling is a plan for the first wishes, with as many spares for the repairs of its pieces as can be had.
type filling struct {
	*store
	plan    []int
	lost    int     // the prices of the wishes without a piece
	repairs [][]int // for each repair the supplies that it can be given a spare of
	given   []int   // for each repair its supply, or none
	left    []int   // how many spares are left of each supply
	lacks   int     // how many repairs have none
}

// empty is a plan for no wishes.
func (s *store) empty() filling {
	f := filling{store: s}
	for _, d := range s.supplies {
		f.left = append(f.left, d.Many)
	}
	return f
}

// with gives the next wish a piece. Several plans go on from the same one, so
// nothing that it has may be shared but what stays as it is.
func (f filling) with(o option) filling {
	wishes, repairs := len(f.plan), len(f.repairs)
	f.plan = append(f.plan[:wishes:wishes], o.piece)
	f.repairs = append(f.repairs[:repairs:repairs], o.repairs...)
	f.given, f.left = slices.Clone(f.given), slices.Clone(f.left)
	for i := range o.repairs {
		f.given = append(f.given, none)
		if !f.give(repairs+i, make([]bool, len(f.left))) {
			f.lacks++
		}
	}
	return f
}

// without gives the next wish nothing.
func (f filling) without() filling {
	wish := len(f.plan)
	f.plan = append(f.plan[:wish:wish], none)
	f.lost += f.Wishes[wish].Price
	return f
}

// give tells whether a repair can be given a spare of a supply that has not been
// tried yet, be it one that another repair has and can give away for another
// one, and gives it. If it cannot, it never can: what others are given
// afterwards does not help it.
func (f *filling) give(repair int, tried []bool) bool {
	for _, supply := range f.repairs[repair] {
		if tried[supply] {
			continue
		}
		tried[supply] = true
		if f.left[supply] > 0 {
			f.left[supply]--
			f.given[repair] = supply
			return true
		}
		for other, has := range f.given {
			if has == supply && f.give(other, tried) {
				f.given[repair] = supply
				return true
			}
		}
	}
	return false
}

// planned is a plan for all wishes; not ok if a wish cannot have its piece, however many spares there are.
func (s *store) planned(plan []int) (filling, bool) {
	f := s.empty()
	for wish, piece := range plan {
		if piece == none {
			f = f.without()
			continue
		}
		o, ok := s.option(wish, piece)
		if !ok {
			return filling{}, false
		}
		f = f.with(o)
	}
	return f, true
}

// takings are the prices of the wishes with a piece.
func (f filling) takings() int {
	sum := -f.lost
	for _, w := range f.Wishes[:len(f.plan)] {
		sum += w.Price
	}
	return sum
}

// longer yields the plans that give the next wish a piece.
func (f filling) longer(yield func(filling) bool) {
	for _, o := range f.options[len(f.plan)] {
		if !slices.Contains(f.plan, o.piece) && !yield(f.with(o)) {
			return
		}
	}
}

// best is the plan that loses the least, of those that can be filled.
func (s *store) best() filling {
	best := s.empty()
	for range s.Wishes {
		best = best.without()
	}
	return s.empty().better(best)
}

// better is the plan that loses the least, of those that begin with this one and can be filled, or best if none of them loses less.
func (f filling) better(best filling) filling {
	if f.lost >= best.lost {
		return best
	}
	if len(f.plan) == len(f.Wishes) {
		return f
	}
	for next := range f.longer {
		if next.lacks == 0 { // if not, none that begins with it can be filled
			best = next.better(best)
		}
	}
	return f.without().better(best)
}

// fewest is how many spares are lacking at the least, of the plans that begin with this one and have a piece for each wish, or best if none of them lacks less.
func (f filling) fewest(best int) int {
	if f.lacks >= best {
		return best
	}
	if len(f.plan) == len(f.Wishes) {
		return f.lacks
	}
	for next := range f.longer {
		best = next.fewest(best)
	}
	return best
}
