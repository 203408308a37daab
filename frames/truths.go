package frames

import (
	"iter"

	"ferrule/api"
)

// positions yields the positions of the runner as the frame opens.
func positions(f api.Frame) iter.Seq[int] {
	return func(yield func(r int) bool) {
		for r := f.High; r >= f.Low; r-- {
			if !yield(r) {
				return
			}
		}
	}
}

// sides yields each arm and stretcher that a section can have.
func sides(s api.Section) iter.Seq2[int, int] {
	return func(yield func(arm, stretch int) bool) {
		for arm := s.Arm.Low; arm <= s.Arm.High; arm++ {
			for stretch := s.Stretch.Low; stretch <= s.Stretch.High; stretch++ {
				if !yield(arm, stretch) {
					return
				}
			}
		}
	}
}

// known tells in which truths something of a section is so. The sides of one
// section say nothing about those of another, so no other section is asked.
func known(s api.Section, so func(arm, stretch int) bool) int {
	each, some := true, false
	for arm, stretch := range sides(s) {
		if so(arm, stretch) {
			some = true
		} else {
			each = false
		}
	}
	return verdict(each, some)
}

func verdict(each, some bool) int {
	switch {
	case each:
		return api.Surely
	case some:
		return api.Perhaps
	}
	return api.Never
}

// distance leaves out Base and Gear of the first section, which has none before it to follow.
func distance(f api.Frame, section, r int) int {
	d := r
	for _, s := range f.Sections[1 : section+1] {
		d = s.Base + d*s.Gear.Num/s.Gear.Den
	}
	return d
}

// cosines are the ends, not reduced. All sides are tried, for the least cosine
// can be that of an arm in the middle of its span.
func cosines(s api.Section, d int) (low, high api.Frac) {
	low = cosine(d, s.Arm.Low, s.Stretch.Low)
	high = low
	for arm, stretch := range sides(s) {
		c := cosine(d, arm, stretch)
		if less(c, low) {
			low = c
		}
		if less(high, c) {
			high = c
		}
	}
	return low, high
}

// bindsAt asks of the sides of a section whether it binds at a position.
func bindsAt(f api.Frame, section, r int) func(arm, stretch int) bool {
	d := distance(f, section, r)
	folded := api.Frac{Num: f.Ease.Den - f.Ease.Num, Den: f.Ease.Den}
	straight := api.Frac{Num: -folded.Num, Den: folded.Den}
	return func(arm, stretch int) bool {
		if d == 0 {
			return true
		}
		c := cosine(d, arm, stretch)
		return !less(c, folded) || !less(straight, c)
	}
}

// bindsSomewhere asks of the sides of a section whether it binds at any position.
func bindsSomewhere(f api.Frame, section int) func(arm, stretch int) bool {
	return func(arm, stretch int) bool {
		for r := range positions(f) {
			if bindsAt(f, section, r)(arm, stretch) {
				return true
			}
		}
		return false
	}
}

// turnsBack asks of the sides of a section whether its cosine falls at a step of the runner away from the top.
func turnsBack(f api.Frame, section int) func(arm, stretch int) bool {
	return func(arm, stretch int) bool {
		for r := range positions(f) {
			if r > f.Low && fallsBetween(distance(f, section, r-1), distance(f, section, r), arm, stretch) {
				return true
			}
		}
		return false
	}
}

func fallsBetween(near, far, arm, stretch int) bool {
	return near > 0 && far > 0 && less(cosine(far, arm, stretch), cosine(near, arm, stretch))
}
