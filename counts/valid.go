package counts

import (
	"ferrule/api"
	"ferrule/gusts"
)

func validRun(r api.Run) bool {
	return gusts.Check(r.Canopy) == api.OK &&
		len(r.Blows) <= api.MaxBlows && each(r.Blows, func(b api.Blow) bool { return validBlow(r, b) }) &&
		len(r.Meters) <= api.MaxMeters && each(r.Meters, validMeter) &&
		within(r.Wrong, 0, api.MaxMeters)
}

func validBlow(r api.Run, b api.Blow) bool {
	return within(b.At, 0, len(r.Canopy.Ribs)-1) &&
		within(b.Force.Low, 0, b.Force.High) && isForce(b.Force.High) && b.Force.High-b.Force.Low <= api.MaxGap
}

func validMeter(m api.Meter) bool { return isForce(m.Limit) && within(m.Count, 0, api.MaxBlows) }

func isForce(n int) bool { return within(n, 0, api.MaxForce) }

func isBlow(r api.Run, blow int) bool { return within(blow, 0, len(r.Blows)-1) }

func isMeter(r api.Run, meter int) bool { return within(meter, 0, len(r.Meters)-1) }

func within(n, low, high int) bool { return low <= n && n <= high }

// each tells whether something holds of all elements of a list.
func each[E any](list []E, holds func(E) bool) bool {
	for _, x := range list {
		if !holds(x) {
			return false
		}
	}
	return true
}
