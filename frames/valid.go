package frames

import "ferrule/api"

func valid(f api.Frame) bool {
	if len(f.Sections) < 1 || len(f.Sections) > api.MaxFolds {
		return false
	}
	for _, s := range f.Sections {
		if !validSection(s) {
			return false
		}
	}
	return validSpan(api.Span{Low: f.Low, High: f.High}, api.MaxTravel) && validPart(f.Ease) &&
		within(f.Rod, 0, 2*api.MaxArm) && within(f.Case, 0, 2*api.MaxArm)
}

func validSection(s api.Section) bool {
	return validSpan(s.Arm, api.MaxPlay) && validSpan(s.Stretch, api.MaxPlay) &&
		within(s.Base, 0, api.MaxArm) && validPart(s.Gear)
}

// validSpan tells whether both ends are lengths and lie close enough. The ends
// are compared with the limits first, so that their difference cannot overflow.
func validSpan(s api.Span, play int) bool {
	return within(s.Low, 1, s.High) && s.High <= api.MaxArm && s.High-s.Low <= play
}

// validPart tells whether a fraction is from 0 to 1 with a small enough Den.
func validPart(q api.Frac) bool {
	return within(q.Den, 1, api.MaxGear) && within(q.Num, 0, q.Den)
}

func within(n, low, high int) bool { return low <= n && n <= high }

func checkSection(f api.Frame, section int) api.Errno {
	if !valid(f) {
		return api.ErrFrame
	}
	if !within(section, 0, len(f.Sections)-1) {
		return api.ErrArg
	}
	return api.OK
}

func checkPosition(f api.Frame, section, r int) api.Errno {
	if e := checkSection(f, section); e != api.OK {
		return e
	}
	if !within(r, f.Low, f.High) {
		return api.ErrArg
	}
	return api.OK
}
