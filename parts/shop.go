package parts

import (
	"slices"

	"ferrule/api"
)

// shop is a valid workshop with all lengths that each spare has in a truth. No
// trial is of two spares, so each length that a spare can have goes with each
// one of every other spare.
type shop struct {
	api.Workshop
	lengths [][]api.Span // for each spare: ascending spans
}

// slots is a set of the slots of a make: the bit with the number of each of them.
type slots uint

// open checks a workshop, is told whether the arguments beside it are valid, and finds the truths; there is at least one.
func open(w api.Workshop, valid bool) (shop, api.Errno) {
	if e := Check(w); e != api.OK {
		return shop{}, e
	}
	if !valid {
		return shop{}, api.ErrArg
	}
	s := shop{Workshop: w}
	for spare := range w.Spares {
		lengths := s.tried(spare)
		if len(lengths) == 0 {
			return shop{}, api.ErrNone
		}
		s.lengths = append(s.lengths, lengths)
	}
	return s, api.OK
}

// tried are the lengths of a spare with which all trials are so.
func (s shop) tried(spare int) []api.Span {
	lengths := []api.Span{s.Spares[spare].Length}
	for _, t := range s.Table {
		if t.Spare != spare {
			continue
		}
		in, out := split(lengths, s.room(spare, t.Make, t.Slot))
		if t.Fits == 1 {
			lengths = in
		} else {
			lengths = out
		}
	}
	return lengths
}

// room is the lengths with which a spare fits a slot: 0 to -1, which is none, if no length does.
func (s shop) room(spare, maker, slot int) api.Span {
	part, place := s.Spares[spare], s.Makes[maker].Slots[slot]
	if part.Kind != place.Kind || !slices.Contains(place.Sections, part.Section) {
		return api.Span{Low: 0, High: -1}
	}
	return api.Span{Low: place.Length.Low, High: place.Length.High + s.Cut}
}

// fits tells what is known of whether a spare fits a slot.
func (s shop) fits(spare, maker, slot int) int {
	in, out := split(s.lengths[spare], s.room(spare, maker, slot))
	switch {
	case len(in) == 0:
		return api.Never
	case len(out) == 0:
		return api.Surely
	}
	return api.Perhaps
}

// fitting are the spares that surely fit a slot, ascending.
func (s shop) fitting(maker, slot int) []int {
	return numbersThat(len(s.Spares), func(spare int) bool {
		return s.fits(spare, maker, slot) == api.Surely
	})
}

// mends tells what is known of whether a list mends a make.
func (s shop) mends(list []int, maker int) int {
	filled := s.filled(list, maker)
	all := slots(1)<<len(s.Makes[maker].Slots) - 1
	switch {
	case !filled[all]:
		return api.Never
	case len(filled) == 1:
		return api.Surely
	}
	return api.Perhaps
}

// filled are the sets of slots of a make that some spare of a list fits, one set for each truth.
func (s shop) filled(list []int, maker int) map[slots]bool {
	filled := map[slots]bool{0: true}
	for _, spare := range list {
		more := map[slots]bool{}
		for fitted := range s.fitted(spare, maker) {
			for set := range filled {
				more[set|fitted] = true
			}
		}
		filled = more
	}
	return filled
}

// fitted has for each set of slots of a make, if a spare can fit all of them and
// no other, the lengths with which it does.
func (s shop) fitted(spare, maker int) map[slots][]api.Span {
	fitted := map[slots][]api.Span{0: s.lengths[spare]}
	for slot := range s.Makes[maker].Slots {
		more := map[slots][]api.Span{}
		for set, lengths := range fitted {
			in, out := split(lengths, s.room(spare, maker, slot))
			if len(in) > 0 {
				more[set|1<<slot] = in
			}
			if len(out) > 0 {
				more[set] = out
			}
		}
		fitted = more
	}
	return fitted
}
