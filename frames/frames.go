// Package frames is layer 1: it moves the frames of umbrellas, whose lengths are known within bounds.
package frames

import "ferrule/api"

// Check returns ErrFrame unless a frame is valid.
func Check(f api.Frame) api.Errno {
	if !valid(f) {
		return api.ErrFrame
	}
	return api.OK
}

// Distance returns the distance of a section at a position.
func Distance(f api.Frame, section, r int) (int, api.Errno) {
	if e := checkPosition(f, section, r); e != api.OK {
		return 0, e
	}
	return distance(f, section, r), api.OK
}

// Cosine returns the least and the greatest cosine of a section at a position in any truth.
func Cosine(f api.Frame, section, r int) (low, high api.Frac, e api.Errno) {
	if e := checkPosition(f, section, r); e != api.OK {
		return api.Frac{}, api.Frac{}, e
	}
	d := distance(f, section, r)
	if d == 0 {
		return api.Frac{}, api.Frac{}, api.ErrNone
	}
	low, high = cosines(f.Sections[section], d)
	return reduced(low), reduced(high), api.OK
}

// Binds returns whether a section binds at a position.
func Binds(f api.Frame, section, r int) (int, api.Errno) {
	if e := checkPosition(f, section, r); e != api.OK {
		return 0, e
	}
	return known(f.Sections[section], bindsAt(f, section, r)), api.OK
}

// First returns the greatest position at which some section can bind, and the first such section there.
func First(f api.Frame) (section, r int, e api.Errno) {
	if e := Check(f); e != api.OK {
		return 0, 0, e
	}
	for r := range positions(f) {
		for i, s := range f.Sections {
			if known(s, bindsAt(f, i, r)) != api.Never {
				return i, r, api.OK
			}
		}
	}
	return 0, 0, api.ErrNone
}

// Opens returns whether a frame opens.
func Opens(f api.Frame) (int, api.Errno) {
	if e := Check(f); e != api.OK {
		return 0, e
	}
	each, some := true, true
	for i, s := range f.Sections {
		switch known(s, bindsSomewhere(f, i)) {
		case api.Surely:
			each, some = false, false
		case api.Perhaps:
			each = false
		}
	}
	return verdict(each, some), api.OK
}

// Turns returns whether a section turns back.
func Turns(f api.Frame, section int) (int, api.Errno) {
	if e := checkSection(f, section); e != api.OK {
		return 0, e
	}
	return known(f.Sections[section], turnsBack(f, section)), api.OK
}

// Blame returns all sections that bind somewhere in each truth.
func Blame(f api.Frame) ([]int, api.Errno) {
	if e := Check(f); e != api.OK {
		return nil, e
	}
	var sections []int
	for i, s := range f.Sections {
		if known(s, bindsSomewhere(f, i)) == api.Surely {
			sections = append(sections, i)
		}
	}
	return sections, api.OK
}

// Closes returns whether a frame that is closed fits its case.
func Closes(f api.Frame) (int, api.Errno) {
	if e := Check(f); e != api.OK {
		return 0, e
	}
	least, greatest := 0, 0
	for _, s := range f.Sections {
		least, greatest = max(least, s.Arm.Low), max(greatest, s.Arm.High)
	}
	return verdict(f.Rod+greatest <= f.Case, f.Rod+least <= f.Case), api.OK
}
