package gusts

import (
	"ferrule/api"
	"ferrule/frames"
)

const minRibs = 3

func validDome(d api.Canopy) bool {
	return frames.Check(d.Frame) == api.OK &&
		within(len(d.Ribs), minRibs, api.MaxRibs) && each(d.Ribs, validStrength) &&
		len(d.Shares) == len(d.Ribs) &&
		each(d.Shares, func(share int) bool { return within(share, 0, api.MaxShare) })
}

func validStrength(s api.Span) bool {
	return within(s.Low, 0, s.High) && s.High <= api.MaxStrength
}

// checkGusts returns ErrCanopy unless a dome is valid, and ErrArg unless the gusts are, which must not be too many.
func checkGusts(d api.Canopy, gusts ...api.Gust) api.Errno {
	if e := Check(d); e != api.OK {
		return e
	}
	valid := func(g api.Gust) bool {
		return within(g.Force, 0, api.MaxForce) && within(g.At, 0, len(d.Ribs)-1)
	}
	if len(gusts) > api.MaxGusts || !each(gusts, valid) {
		return api.ErrArg
	}
	return api.OK
}

func within(n, low, high int) bool { return low <= n && n <= high }

// each tells whether something holds of all elements of a list.
func each[E any](list []E, holds func(E) bool) bool {
	for _, x := range list {
		if !holds(x) {
			return false
		}
	}
	return true
}
