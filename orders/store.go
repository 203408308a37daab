package orders

import (
	"slices"

	"ferrule/api"
	"ferrule/parts"
)

// store is a valid shop whose workshop has a truth, with what its wishes can have.
type store struct {
	api.Shop
	supplies []api.Delivery    // the stock, as spares that come on the day 0, and the deliveries
	fitting  map[api.Job][]int // for each slot that is broken in a piece the spares that surely fit it
	options  [][]option        // for each wish, ascending by the piece
}

// option is a piece that a wish can have if there are spares enough in time.
type option struct {
	piece   int
	repairs [][]int // for each broken slot the supplies of spares that fit it and are there in time
}

// open checks a shop, is told whether the arguments beside it are valid, and finds what its wishes can have.
func open(s api.Shop, valid bool) (*store, api.Errno) {
	if e := check(s, valid); e != api.OK {
		return nil, e
	}
	// work for no jobs can be done just if there is a truth
	if _, e := parts.Most(s.Workshop, s.Stock, nil); e != api.OK {
		return nil, e
	}
	x := &store{Shop: s, fitting: map[api.Job][]int{}}
	for spare, many := range s.Stock {
		x.supplies = append(x.supplies, api.Delivery{Day: 0, Spare: spare, Many: many})
	}
	x.supplies = append(x.supplies, s.Deliveries...)
	for _, p := range s.Pieces {
		for _, slot := range p.Broken {
			x.learn(api.Job{Make: p.Make, Slot: slot})
		}
	}
	for wish := range s.Wishes {
		x.options = append(x.options, x.optionsOf(wish))
	}
	return x, api.OK
}

// learn finds which spares surely fit a slot.
func (s *store) learn(place api.Job) {
	if _, known := s.fitting[place]; known {
		return
	}
	var fitting []int
	for spare := range s.Stock {
		if n, _ := parts.Fits(s.Workshop, spare, place.Make, place.Slot); n == api.Surely {
			fitting = append(fitting, spare)
		}
	}
	s.fitting[place] = fitting
}

func (s *store) optionsOf(wish int) []option {
	var options []option
	for piece := range s.Pieces {
		if o, ok := s.option(wish, piece); ok {
			options = append(options, o)
		}
	}
	return options
}

// option tells how a wish can have a piece. It cannot if the piece does not
// suit it, is late though nothing is waited for, or has a slot that no spare
// surely fits, however many are bought.
func (s *store) option(wish, piece int) (option, bool) {
	w, p := s.Wishes[wish], s.Pieces[piece]
	how := suits(w, p)
	by := w.Due
	if how == api.Carved {
		by -= s.Carve
	}
	if how == api.Unsuited || by < 0 {
		return option{}, false
	}
	o := option{piece: piece}
	for _, slot := range p.Broken {
		fitting := s.fitting[api.Job{Make: p.Make, Slot: slot}]
		if len(fitting) == 0 {
			return option{}, false
		}
		o.repairs = append(o.repairs, s.inTime(fitting, by))
	}
	return o, true
}

// inTime are the supplies of some of these spares that are there by a day.
func (s *store) inTime(spares []int, by int) []int {
	var supplies []int
	for supply, d := range s.supplies {
		if d.Day <= by && slices.Contains(spares, d.Spare) {
			supplies = append(supplies, supply)
		}
	}
	return supplies
}

// suits tells how a piece suits a wish.
func suits(w api.Wish, p api.Piece) int {
	switch {
	case !slices.Contains(w.Colors, p.Color) || !within(p.Size, w.Size.Low, w.Size.High):
		return api.Unsuited
	case p.Letter == w.Letter:
		return api.AsItIs
	case p.Letter == 0:
		return api.Carved
	}
	return api.Unsuited
}
