package rains

import (
	"iter"
	"slices"

	"ferrule/api"
)

// weather is a tour with all its truths.
type weather struct {
	api.Tour
	truths []truth
}

// truth is a level for each day, and the first day since which they are not those of the truth before it.
type truth struct {
	levels []int
	since  int
}

func newWeather(t api.Tour) weather {
	w := weather{Tour: t}
	var before []int
	for levels := range rows(w.Days, api.MaxRain, w.Step) {
		if wrong(w.Rains, levels) <= w.Wrong {
			x := truth{slices.Clone(levels), same(before, levels)}
			w.truths = append(w.truths, x)
			before = x.levels
		}
	}
	return w
}

// rows yields all rows of numbers from 0 to most in which two that follow each other
// differ by at most step. They are filled one after the other in the same memory: what
// is kept of them must be cloned.
func rows(length, most, step int) iter.Seq[[]int] {
	return func(yield func([]int) bool) {
		row := make([]int, length)
		var fill func(at int) bool
		fill = func(at int) bool {
			if at == length {
				return yield(row)
			}
			for n := range most + 1 {
				if at > 0 && !near(row[at-1], n, step) {
					continue
				}
				row[at] = n
				if !fill(at + 1) {
					return false
				}
			}
			return true
		}
		fill(0)
	}
}

// same is how many numbers two lists have in common before they differ.
func same(a, b []int) int {
	n := 0
	for n < min(len(a), len(b)) && a[n] == b[n] {
		n++
	}
	return n
}

// wrong counts the forecasts that are not right.
func wrong(rains []api.Rain, levels []int) int {
	many := 0
	for _, r := range rains {
		if !isRight(r, levels) {
			many++
		}
	}
	return many
}

func isRight(r api.Rain, levels []int) bool {
	return within(levels[r.Day], r.Level.Low, r.Level.High)
}
