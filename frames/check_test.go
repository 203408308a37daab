package frames_test

import (
	"math"
	"slices"
	"testing"

	"ferrule/api"
	"ferrule/frames"
)

// number is one number of a frame, set and checked by itself.
type number struct {
	name      string
	set       func(f *api.Frame, n int)
	low, high int // the least and the greatest one that is valid in the frame of threefold
}

func ofSection(i int, name string, low, high int, set func(s *api.Section, n int)) number {
	return number{name, func(f *api.Frame, n int) { set(&f.Sections[i], n) }, low, high}
}

// numbers are all numbers of the frame that threefold returns.
func numbers() []number {
	all := []number{
		{"Low", func(f *api.Frame, n int) { f.Low = n }, 1, 100},
		{"High", func(f *api.Frame, n int) { f.High = n }, 20, 220},
		{"Ease.Num", func(f *api.Frame, n int) { f.Ease.Num = n }, 0, 20},
		{"Ease.Den", func(f *api.Frame, n int) { f.Ease.Den = n }, 1, 20},
		{"Rod", func(f *api.Frame, n int) { f.Rod = n }, 0, 4000},
		{"Case", func(f *api.Frame, n int) { f.Case = n }, 0, 4000},
	}
	for i, s := range threefold().Sections {
		all = append(all,
			ofSection(i, "Arm.Low", s.Arm.High-6, s.Arm.High, func(s *api.Section, n int) { s.Arm.Low = n }),
			ofSection(i, "Arm.High", s.Arm.Low, s.Arm.Low+6, func(s *api.Section, n int) { s.Arm.High = n }),
			ofSection(i, "Stretch.Low", s.Stretch.High-6, s.Stretch.High, func(s *api.Section, n int) { s.Stretch.Low = n }),
			ofSection(i, "Stretch.High", s.Stretch.Low, s.Stretch.Low+6, func(s *api.Section, n int) { s.Stretch.High = n }),
			ofSection(i, "Base", 0, 2000, func(s *api.Section, n int) { s.Base = n }),
			ofSection(i, "Gear.Num", 0, s.Gear.Den, func(s *api.Section, n int) { s.Gear.Num = n }),
			ofSection(i, "Gear.Den", max(1, s.Gear.Num), 20, func(s *api.Section, n int) { s.Gear.Den = n }),
		)
	}
	return all
}

// wrong are changes each of which alone makes the frame of threefold invalid.
func wrong() map[string]func(f *api.Frame) {
	all := map[string]func(f *api.Frame){
		"no sections":           func(f *api.Frame) { f.Sections = nil },
		"empty sections":        func(f *api.Frame) { f.Sections = []api.Section{} },
		"four sections":         func(f *api.Frame) { f.Sections = append(f.Sections, f.Sections[0]) },
		"zero Ease":             func(f *api.Frame) { f.Ease = api.Frac{} },
		"Ease above 1":          func(f *api.Frame) { f.Ease = frac(2, 1) },
		"Ease of negatives":     func(f *api.Frame) { f.Ease = frac(-1, -20) },
		"High above all":        func(f *api.Frame) { f.Low, f.High = 1900, 2001 },
		"Low of 0":              func(f *api.Frame) { f.Low, f.High = 0, 0 },
		"positions too far":     func(f *api.Frame) { f.Low, f.High = 1799, 2000 },
		"positions from ends":   func(f *api.Frame) { f.Low, f.High = math.MinInt, math.MaxInt },
		"positions beyond ends": func(f *api.Frame) { f.Low, f.High = math.MaxInt, math.MaxInt },
	}
	for i := range 3 {
		for name, s := range map[string]api.Span{
			"of 0": span(0, 0), "from 0": span(0, 6), "to 2001": span(1995, 2001), "of 2001": span(2001, 2001),
			"to 8": span(1, 8), "from 1993": span(1993, 2000), "turned": span(8, 7), "from ends": span(math.MinInt, math.MaxInt),
		} {
			all["Arm "+name+" of "+string(rune('0'+i))] = func(f *api.Frame) { f.Sections[i].Arm = s }
			all["Stretch "+name+" of "+string(rune('0'+i))] = func(f *api.Frame) { f.Sections[i].Stretch = s }
		}
		all["zero Gear of "+string(rune('0'+i))] = func(f *api.Frame) { f.Sections[i].Gear = api.Frac{} }
		all["zero section "+string(rune('0'+i))] = func(f *api.Frame) { f.Sections[i] = api.Section{} }
	}
	for _, x := range numbers() {
		for name, n := range map[string]int{
			" too small": x.low - 1, " too great": x.high + 1, " least of all": math.MinInt, " greatest of all": math.MaxInt,
		} {
			all[x.name+name] = func(f *api.Frame) { x.set(f, n) }
		}
	}
	return all
}

func TestP1_1Check(t *testing.T) {
	for _, x := range numbers() {
		for _, n := range []int{x.low, (x.low + x.high) / 2, x.high} {
			f := threefold()
			x.set(&f, n)
			if e := frames.Check(f); e != api.OK {
				t.Errorf("%s of %d: error %d", x.name, n, e)
			}
		}
	}
	for name, change := range wrong() {
		f := threefold()
		change(&f)
		if e := frames.Check(f); e != api.ErrFrame {
			t.Errorf("%s: error %d", name, e)
		}
	}
}

func TestP1_1CheckEnds(t *testing.T) {
	for i, f := range []api.Frame{
		frameF(100), frameF(20), frameF(220), threefold(), {
			Sections: []api.Section{section(span(1, 1), span(1, 1), 0, frac(0, 1))},
			Low:      1, High: 1, Ease: frac(0, 1),
		}, {
			Sections: slices.Repeat([]api.Section{section(span(1994, 2000), span(1994, 2000), 2000, frac(20, 20))}, 3),
			Low:      1800, High: 2000, Ease: frac(20, 20), Rod: 4000, Case: 4000,
		},
		single(span(1, 7), span(1994, 2000), 2000, 2000, frac(1, 1)),
		single(span(1994, 2000), span(1, 7), 1, 201, frac(2, 4)),
	} {
		if e := frames.Check(f); e != api.OK {
			t.Errorf("%d: error %d", i, e)
		}
	}
}

// answer is what a call returns: its results that are not zero, and its error.
type answer struct {
	given bool
	e     api.Errno
}

// ask calls all functions for a section and a position.
func ask(f api.Frame, section, r int) map[string]answer {
	all := map[string]answer{}
	one := func(name string, n int, e api.Errno) { all[name] = answer{n != 0, e} }
	n, e := frames.Distance(f, section, r)
	one("Distance", n, e)
	low, high, e := frames.Cosine(f, section, r)
	all["Cosine"] = answer{low != (api.Frac{}) || high != (api.Frac{}), e}
	n, e = frames.Binds(f, section, r)
	one("Binds", n, e)
	n, e = frames.Turns(f, section)
	one("Turns", n, e)
	n, e = frames.Opens(f)
	one("Opens", n, e)
	n, e = frames.Closes(f)
	one("Closes", n, e)
	n, at, e := frames.First(f)
	all["First"] = answer{n != 0 || at != 0, e}
	l, e := frames.Blame(f)
	all["Blame"] = answer{len(l) > 0, e}
	return all
}

// An invalid frame comes before a section or a position that is none.
func TestP1InvalidFrame(t *testing.T) {
	for name, change := range wrong() {
		f := threefold()
		change(&f)
		for _, x := range [][2]int{{0, 50}, {2, 100}, {-1, 50}, {3, 50}, {0, 0}, {0, 4001}, {math.MinInt, math.MaxInt}, {math.MaxInt, math.MinInt}} {
			for call, a := range ask(f, x[0], x[1]) {
				if a.given || a.e != api.ErrFrame {
					t.Errorf("%s, %s of %v: error %d, a result: %t", name, call, x, a.e, a.given)
				}
			}
		}
	}
}

func TestP1InvalidArguments(t *testing.T) {
	// the second section has no cosine at all: ErrArg comes before ErrNone
	still := changed(func(f *api.Frame) { f.Sections[1].Base, f.Sections[1].Gear = 0, frac(0, 1) })
	for _, f := range []api.Frame{frameF(100), still, threefold()} {
		many := len(f.Sections)
		for _, n := range []int{-1, many, many + 1, math.MinInt, math.MaxInt} {
			for _, r := range []int{50, f.Low - 1} {
				a := ask(f, n, r)
				for _, call := range []string{"Distance", "Cosine", "Binds", "Turns"} {
					if a[call].given || a[call].e != api.ErrArg {
						t.Errorf("%s of the section %d at %d: error %d, a result: %t", call, n, r, a[call].e, a[call].given)
					}
				}
			}
		}
		for _, r := range []int{f.Low - 1, f.High + 1, 0, -50, math.MinInt, math.MaxInt} {
			a := ask(f, 1, r)
			for _, call := range []string{"Distance", "Cosine", "Binds"} {
				if a[call].given || a[call].e != api.ErrArg {
					t.Errorf("%s at %d: error %d, a result: %t", call, r, a[call].e, a[call].given)
				}
			}
		}
		for i := range many {
			for _, r := range []int{f.Low, f.High} {
				a := ask(f, i, r)
				for _, call := range []string{"Distance", "Binds", "Turns"} {
					if a[call].e != api.OK {
						t.Errorf("%s of the section %d at %d: error %d", call, i, r, a[call].e)
					}
				}
			}
		}
	}
	if a := ask(still, 1, 50)["Cosine"]; a.given || a.e != api.ErrNone {
		t.Errorf("Cosine: error %d, a result: %t", a.e, a.given)
	}
}

// A call changes no argument, gives new memory, and leaves nothing behind for the next one.
func TestP1Memory(t *testing.T) {
	for _, f := range []api.Frame{frameF(100), frameF(120), between(), threefold()} {
		was := slices.Clone(f.Sections)
		before := ask(f, 0, 40)
		l, _ := frames.Blame(f)
		m, _ := frames.Blame(f)
		again := slices.Clone(m)
		for i := range l {
			l[i] = 77
		}
		_ = append(l[:len(l):cap(l)], 77)
		if !slices.Equal(m, again) {
			t.Errorf("Blame = %v, and then %v", again, m)
		}
		ask(frameF(106), 1, 100)
		for call, a := range ask(f, 0, 40) {
			if a != before[call] {
				t.Errorf("%s: %v, and before %v", call, a, before[call])
			}
		}
		if !slices.Equal(f.Sections, was) {
			t.Errorf("the sections are %v, and were %v", f.Sections, was)
		}
	}
}

// The largest frames are answered as well as small ones.
func TestP1Largest(t *testing.T) {
	f := api.Frame{
		Sections: slices.Repeat([]api.Section{section(span(1994, 2000), span(1994, 2000), 2000, frac(20, 20))}, 3),
		Low:      1800, High: 2000, Ease: frac(1, 20), Rod: 4000, Case: 4000,
	}
	for call, a := range ask(f, 2, 2000) {
		if a.e != api.OK {
			t.Errorf("%s: error %d", call, a.e)
		}
	}
	low, high, e := frames.Cosine(f, 2, 2000)
	if low != frac(3, 2) || high != frac(1500, 997) || e != api.OK {
		t.Errorf("Cosine = %v, %v, error %d", low, high, e)
	}
}
