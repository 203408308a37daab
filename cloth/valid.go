package cloth

import "ferrule/api"

// validDome asks of the bolts only how many they are.
func validDome(d api.Dome) bool {
	return within(len(d.Bolts), 1, api.MaxBolts) &&
		within(len(d.Gores), api.MinGores, api.MaxGores) &&
		each(d.Gores, func(bolt int) bool { return isNumber(d.Bolts, bolt) }) &&
		within(d.Loss, 0, api.MaxLoss) &&
		within(len(d.Rounds), 1, api.MaxCurve) &&
		each(d.Rounds, func(s api.Span) bool { return validSpan(s, api.MaxRound) }) &&
		len(d.Widths) == len(d.Rounds) &&
		each(d.Widths, func(width int) bool { return within(width, 2*d.Loss, api.MaxWidth) }) &&
		within(d.Slope, 0, api.MaxSlope)
}

func validBolt(b api.Bolt) bool {
	return validSpan(b.Stretch, api.MaxStretch) &&
		len(b.Strips) <= api.MaxStrips && each(b.Strips, validStrip) &&
		within(b.Wrong, 0, api.MaxFalse)
}

func validStrip(s api.Strip) bool {
	return within(s.Long, 1, api.MaxWidth) && validSpan(s.Pulled, 2*api.MaxWidth)
}

func validSpan(s api.Span, greatest int) bool {
	return within(s.Low, 0, s.High) && s.High <= greatest
}

func within(n, low, high int) bool { return low <= n && n <= high }

// each tells whether something holds of all elements of a list.
func each[E any](list []E, holds func(E) bool) bool {
	for _, x := range list {
		if !holds(x) {
			return false
		}
	}
	return true
}

// isNumber tells whether a number is that of an element of a list.
func isNumber[E any](list []E, number int) bool { return within(number, 0, len(list)-1) }

// checkAt returns the first error of a dome, and ErrArg unless a number is that of one of its bolts or rows.
func checkAt[E any](d api.Dome, list []E, number int) api.Errno {
	if e := Check(d); e != api.OK {
		return e
	}
	if !isNumber(list, number) {
		return api.ErrArg
	}
	return api.OK
}
