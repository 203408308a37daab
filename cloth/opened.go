package cloth

import (
	"iter"
	"slices"

	"ferrule/api"
)

// opened is a valid dome with all numbers that each of its bolts has in some
// truth, ascending; each bolt has at least one. The strips of one bolt say
// nothing about another one, so the truths are all choices of these numbers.
type opened struct {
	api.Dome
	stretches [][]int
}

func open(d api.Dome) (opened, api.Errno) {
	if e := Check(d); e != api.OK {
		return opened{}, e
	}
	return stretched(d)
}

// openAt opens a dome for a question about the bolt or the row of a number.
func openAt[E any](d api.Dome, list []E, number int) (opened, api.Errno) {
	if e := checkAt(d, list, number); e != api.OK {
		return opened{}, e
	}
	return stretched(d)
}

// stretched returns ErrNone if some bolt has no number, even one that no gore
// is cut from: without it there is no truth at all.
func stretched(d api.Dome) (opened, api.Errno) {
	o := opened{Dome: d}
	for _, b := range d.Bolts {
		numbers := slices.Collect(stretches(b))
		if len(numbers) == 0 {
			return opened{}, api.ErrNone
		}
		o.stretches = append(o.stretches, numbers)
	}
	return o, api.OK
}

// stretches yields the numbers that a bolt can have, ascending.
func stretches(b api.Bolt) iter.Seq[int] {
	return func(yield func(stretch int) bool) {
		for stretch, untrue := range tried(b) {
			if untrue <= b.Wrong && !yield(stretch) {
				return
			}
		}
	}
}

// tried yields each number of the Stretch of a bolt, ascending, with how many
// of its strips are not true of it.
func tried(b api.Bolt) iter.Seq2[int, int] {
	return func(yield func(stretch, untrue int) bool) {
		for stretch := b.Stretch.Low; stretch <= b.Stretch.High; stretch++ {
			untrue := 0
			for _, s := range b.Strips {
				if !in(s.Pulled, pulled(s.Long, stretch)) {
					untrue++
				}
			}
			if !yield(stretch, untrue) {
				return
			}
		}
	}
}

func pulled(length, stretch int) int { return length * (1000 + stretch) / 1000 }

func in(s api.Span, n int) bool { return within(n, s.Low, s.High) }

// gore is how wide a gore that is cut to a width is in the dome, when its cloth stretches by a number.
func (o opened) gore(width, stretch int) int { return pulled(width-2*o.Loss, stretch) }

// round is the least and the greatest round of a row whose gores are cut to a
// width: those in which all bolts stretch least, or most.
func (o opened) round(width int) api.Span {
	var round api.Span
	for _, bolt := range o.Gores {
		numbers := o.stretches[bolt]
		round.Low += o.gore(width, numbers[0])
		round.High += o.gore(width, numbers[len(numbers)-1])
	}
	return round
}

// rounds are all rounds that a row whose gores are cut to a width has in some
// truth. There can be gaps between them, as all gores of a bolt stretch alike.
func (o opened) rounds(width int) map[int]bool {
	sums := map[int]bool{0: true}
	for bolt, numbers := range o.stretches {
		many := o.goresOf(bolt)
		longer := map[int]bool{}
		for sum := range sums {
			for _, stretch := range numbers {
				longer[sum+many*o.gore(width, stretch)] = true
			}
		}
		sums = longer
	}
	return sums
}

// goresOf is how many gores are cut from a bolt.
func (o opened) goresOf(bolt int) int {
	many := 0
	for _, b := range o.Gores {
		if b == bolt {
			many++
		}
	}
	return many
}

func (o opened) surelyTight(row, width int) bool {
	round := o.round(width)
	return in(o.Rounds[row], round.Low) && in(o.Rounds[row], round.High)
}

func (o opened) tight(row int) int {
	if o.surelyTight(row, o.Widths[row]) {
		return api.Surely
	}
	for round := range o.rounds(o.Widths[row]) {
		if in(o.Rounds[row], round) {
			return api.Perhaps
		}
	}
	return api.Never
}
