package parts

import (
	"slices"

	"ferrule/api"
)

func validWorkshop(w api.Workshop) bool {
	return len(w.Spares) <= api.MaxSpares && each(w.Spares, validSpare) &&
		len(w.Makes) <= api.MaxMakes && each(w.Makes, validMake) &&
		within(w.Cut, 0, api.MaxCut) &&
		len(w.Table) <= api.MaxTrials &&
		each(w.Table, func(t api.Trial) bool {
			return isSpare(w, t.Spare) && isSlot(w, t.Make, t.Slot) && within(t.Fits, 0, 1)
		})
}

func validSpare(s api.Spare) bool {
	return isSection(s.Kind) && isSection(s.Section) && validLength(s.Length)
}

func validMake(m api.Make) bool {
	return len(m.Slots) <= api.MaxSlots && each(m.Slots, validSlot)
}

func validSlot(s api.Slot) bool {
	return isSection(s.Kind) &&
		len(s.Sections) <= api.MaxSections && each(s.Sections, isSection) && ascends(s.Sections) &&
		validLength(s.Length)
}

// isSection tells whether a number is one of a section, or of a kind: these have the same bounds.
func isSection(n int) bool { return within(n, 0, api.MaxSection) }

func validLength(s api.Span) bool {
	return within(s.Low, 0, s.High) && s.High <= api.MaxMeasure
}

// clashes tells whether a table has a trial and one that says the other of the same.
func clashes(table []api.Trial) bool {
	return slices.ContainsFunc(table, func(t api.Trial) bool {
		t.Fits = 1 - t.Fits
		return slices.Contains(table, t)
	})
}

func isSpare(w api.Workshop, spare int) bool { return within(spare, 0, len(w.Spares)-1) }

func isMake(w api.Workshop, maker int) bool { return within(maker, 0, len(w.Makes)-1) }

func isSlot(w api.Workshop, maker, slot int) bool {
	return isMake(w, maker) && within(slot, 0, len(w.Makes[maker].Slots)-1)
}

func isList(w api.Workshop, list []int) bool {
	return ascends(list) && each(list, func(spare int) bool { return isSpare(w, spare) })
}

func isStock(w api.Workshop, stock []int) bool {
	return len(stock) == len(w.Spares) &&
		each(stock, func(many int) bool { return within(many, 0, api.MaxJobs) })
}

func areJobs(w api.Workshop, jobs []api.Job) bool {
	return len(jobs) <= api.MaxJobs &&
		each(jobs, func(j api.Job) bool { return isSlot(w, j.Make, j.Slot) })
}

// ascends tells whether each number of a list is greater than the one before it.
func ascends(list []int) bool {
	for i := range len(list) - 1 {
		if list[i] >= list[i+1] {
			return false
		}
	}
	return true
}

func within(n, low, high int) bool { return low <= n && n <= high }

// each tells whether something holds of all elements of a list.
func each[E any](list []E, holds func(E) bool) bool {
	for _, x := range list {
		if !holds(x) {
			return false
		}
	}
	return true
}

// numbersThat returns the numbers, of so many counted from 0, of which something holds, ascending.
func numbersThat(many int, holds func(n int) bool) []int {
	var numbers []int
	for n := range many {
		if holds(n) {
			numbers = append(numbers, n)
		}
	}
	return numbers
}
