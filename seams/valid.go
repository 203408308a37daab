package seams

import (
	"slices"

	"ferrule/api"
)

// validFigure asks of the dome, which is valid, only how many gores it has.
func validFigure(f api.Figure) bool {
	gores := len(f.Dome.Gores)
	return within(f.Period, 1, api.MaxPeriod) &&
		within(f.Run, 0, api.MaxWidth) &&
		within(f.Near, 0, f.Period/2) &&
		len(f.Starts) == gores && eachWithin(f.Starts, 0, f.Period-1) &&
		len(f.Times) == gores && eachWithin(f.Times, 1, api.MaxSew)
}

func within(n, low, high int) bool { return low <= n && n <= high }

func eachWithin(list []int, low, high int) bool {
	return !slices.ContainsFunc(list, func(n int) bool { return !within(n, low, high) })
}
