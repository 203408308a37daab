package forewoman_test

import (
	"fmt"
	"math"
	"reflect"
	"slices"
	"strings"
	"testing"

	"ferrule/api"
	"ferrule/forewoman"
	"ferrule/hire"
	"ferrule/orders"
)

// laden is a valid desk that has some of all.
func laden() api.Desk {
	return deskD(hired, func(d *api.Desk) { d.Counter.Voided = []int{3, 4} })
}

// numbersIn are all numbers of a value, with their names.
func numbersIn(v reflect.Value, name string, found func(name string, n reflect.Value)) {
	switch v.Kind() {
	case reflect.Int:
		found(name, v)
	case reflect.Struct:
		for i := range v.NumField() {
			numbersIn(v.Field(i), name+" "+v.Type().Field(i).Name, found)
		}
	case reflect.Slice:
		for i := range v.Len() {
			numbersIn(v.Index(i), fmt.Sprint(name, " ", i), found)
		}
	}
}

// eachNumber sets each number of the desk laden, one after the other, to these.
func eachNumber(ns []int, found func(name string, d api.Desk)) {
	d := laden()
	numbersIn(reflect.ValueOf(&d).Elem(), "", func(name string, v reflect.Value) {
		was := v.Int()
		for _, n := range ns {
			v.SetInt(int64(n))
			found(fmt.Sprint(name, " ", n), d)
		}
		v.SetInt(was)
	})
}

// wantDeskError wants that a desk is not valid, whatever the script.
func wantDeskError(t *testing.T, what string, d api.Desk) {
	t.Helper()
	if e := forewoman.Check(d); e != api.ErrDesk {
		t.Errorf("%s: Check: error %d", what, e)
	}
	for _, script := range [][]string{nil, {}, {"most"}, {"lend 1 0 100 3 7", "?"}, make([]string, 40), make([]string, 41), make([]string, 1000)} {
		if answers, after, e := forewoman.Run(d, script); e != api.ErrDesk || len(answers) > 0 || !reflect.DeepEqual(after, api.Desk{}) {
			t.Errorf("%s: Run = %q, %+v, error %d", what, answers, after, e)
		}
	}
}

// wrongs are changes each of which alone makes the desk laden invalid.
func wrongs() map[string]func(d *api.Desk) {
	return map[string]func(d *api.Desk){
		"nothing":                   func(d *api.Desk) { *d = api.Desk{} },
		"no shop's stock":           func(d *api.Desk) { d.Shop.Stock = nil },
		"no tariff":                 func(d *api.Desk) { d.Counter.Tariff = api.Tariff{} },
		"no clerks of slips":        func(d *api.Desk) { d.Counter.Clerks = nil },
		"four clerks":               func(d *api.Desk) { d.Counter.Clerks = make([]api.Span, 4) },
		"thirteen slips":            func(d *api.Desk) { d.Counter.Slips = slices.Repeat(d.Counter.Slips[:1], 13) },
		"thirteen voided":           func(d *api.Desk) { d.Counter.Voided = make([]int, 13) },
		"five closed spans":         func(d *api.Desk) { d.Counter.Closed = []api.Span{{}, span(1, 1), span(2, 2), span(3, 3), span(4, 4)} },
		"slips that clash":          func(d *api.Desk) { d.Counter.Slips = append(d.Counter.Slips, lent(1, 0, 101, 3, 7)) },
		"void slips that clash":     func(d *api.Desk) { d.Counter.Slips = append(d.Counter.Slips, lent(3, 0, 162, 3, 8)) },
		"eleven spares":             func(d *api.Desk) { d.Shop.Workshop.Spares, d.Shop.Stock = make([]api.Spare, 11), make([]int, 11) },
		"seven makes":               func(d *api.Desk) { d.Shop.Workshop.Makes = append(d.Shop.Workshop.Makes, make([]api.Make, 5)...) },
		"31 trials":                 func(d *api.Desk) { d.Shop.Workshop.Table = slices.Repeat(d.Shop.Workshop.Table, 31) },
		"trials that clash":         func(d *api.Desk) { d.Shop.Workshop.Table = append(d.Shop.Workshop.Table, trial(0, 1, 0, 1)) },
		"nine pieces":               func(d *api.Desk) { d.Shop.Pieces = slices.Repeat(d.Shop.Pieces[:1], 9) },
		"seven wishes":              func(d *api.Desk) { d.Shop.Wishes = slices.Repeat(d.Shop.Wishes[:1], 7) },
		"nine deliveries":           func(d *api.Desk) { d.Shop.Deliveries = slices.Repeat(d.Shop.Deliveries[:1], 9) },
		"slots of no make":          func(d *api.Desk) { d.Shop.Workshop.Makes, d.Shop.Workshop.Table = nil, nil },
		"a wish without a color":    func(d *api.Desk) { d.Shop.Wishes[3].Colors = nil },
		"broken slots that descend": func(d *api.Desk) { d.Shop.Pieces[3].Broken = []int{1, 0} },
		"sections that descend":     func(d *api.Desk) { d.Shop.Workshop.Makes[0].Slots[0].Sections = []int{3, 2} },
		"a shop and a counter":      func(d *api.Desk) { d.Shop.Carve, d.Counter.Tariff.Unit = -1, 0 },
	}
}

func TestP12_1Check(t *testing.T) {
	for name, change := range wrongs() {
		d := laden()
		change(&d)
		wantDeskError(t, name, d)
	}
	// no number of a desk can be below -30 or above 100000
	eachNumber([]int{math.MinInt, -31, 100001, math.MaxInt}, func(name string, d api.Desk) { wantDeskError(t, name, d) })
	many := 0
	eachNumber([]int{-30, -1, 0, 1, 2, 3, 4, 5, 9, 10, 11, 30, 58, 59, 60, 99, 100, 305, 999, 1000, 9999, 10000, 100000}, func(name string, d api.Desk) {
		valid := orders.Check(d.Shop) == api.OK && hire.Check(d.Counter) == api.OK
		if e := forewoman.Check(d); (e == api.OK) != valid || !valid && e != api.ErrDesk {
			t.Errorf("%s: error %d", name, e)
		}
		if valid {
			many++
		}
	})
	if many < 500 {
		t.Errorf("%d valid desks", many)
	}
}

func TestP12_1CheckEnds(t *testing.T) {
	counter := api.Counter{Tariff: api.Tariff{Unit: 1, Lost: 1}}
	for i, d := range []api.Desk{
		deskD(), laden(), {Counter: counter}, {Shop: shopX(), Counter: counter}, {Counter: laden().Counter}, deskD(lost), // those without a truth are valid
		deskD(func(d *api.Desk) { d.Counter.Slips = []api.Slip{back(1, 0, 1, 1)} }),
		deskD(func(d *api.Desk) { d.Counter.Slips = slices.Repeat([]api.Slip{back(1, 0, 1, 1)}, 12) }),
	} {
		if e := forewoman.Check(d); e != api.OK {
			t.Errorf("%d: error %d", i, e)
		}
		if answers, _, e := forewoman.Run(d, nil); e != api.OK || len(answers) > 0 {
			t.Errorf("%d: Run = %q, error %d", i, answers, e)
		}
	}
}

// A desk that is invalid comes before a script that is too long.
func TestP1InvalidScripts(t *testing.T) {
	for _, many := range []int{41, 42, 1000} {
		for _, line := range []string{"", "most", "lend 1 0 100 3 7"} {
			answers, after, e := forewoman.Run(laden(), slices.Repeat([]string{line}, many))
			if e != api.ErrMany || len(answers) > 0 || !reflect.DeepEqual(after, api.Desk{}) {
				t.Errorf("%d of %q: Run = %q, %+v, error %d", many, line, answers, after, e)
			}
		}
	}
	for many := range api.MaxScript + 1 {
		if answers, _, e := forewoman.Run(laden(), make([]string, many)); e != api.OK || len(answers) != many || slices.ContainsFunc(answers, func(a string) bool { return a != "?" }) {
			t.Errorf("%d: Run = %q, error %d", many, answers, e)
		}
	}
}

// Any line is answered.
func TestP1AnyLine(t *testing.T) {
	var lines []string
	for b := range 256 {
		lines = append(lines, string([]byte{byte(b)}), "most"+string([]byte{byte(b)}), "owes "+string([]byte{byte(b)}), "takes 0 0 0 0"+string([]byte{byte(b)})) // with a leading zero, if it is a digit
	}
	lines = append(lines, strings.Repeat(" ", 100000), strings.Repeat("9", 100000), "most"+strings.Repeat(" 0", 100000), "owes "+strings.Repeat("0", 100000), strings.Repeat("most", 100000))
	for _, l := range lines {
		want := "?"
		if len(l) == 6 && l[:5] == "owes " && l[5] >= '0' && l[5] <= '9' {
			want = map[bool]string{true: "100 100", false: "0 0"}[l[5] == '7']
		}
		wantKept(t, laden(), l+">"+want)
	}
	wantKept(t, laden(), "takes"+strings.Repeat(" 0", 100000)+">no", "piece 1 1 1 0"+strings.Repeat(" 0", 100000)+">no", "wish 1 1 1 1 1"+strings.Repeat(" 0", 100000)+">no")
}

// busy is a script that changes all that it can.
func busy() []string {
	return []string{
		"lend 30 1 200 9 7", "back 31 0 300 9", "void 4", "void 50", "trial 3 1 0 1", "stock 1 3", "comes 9 1 2", "piece 4 5 6 0 0 1", "wish 1 2 3 4 5 6 7", "drop 1",
		"trial 1 0 0 0", "stock 1 9", "piece 100 1 1 1", "wish 1 2 3 4 5", "comes 9 9 9", "lend 30 1 200 9 8", "void 100", "drop 9", "most", "extra", "can 0", "takes 0 0 0 0", "missing 9999", "where 3 200",
	}
}

// copied is a value in new memory, with lists as long as they can be and nothing behind them.
func copied(d api.Desk) api.Desk {
	var deep func(v reflect.Value) reflect.Value
	deep = func(v reflect.Value) reflect.Value {
		c := reflect.New(v.Type()).Elem()
		switch v.Kind() {
		case reflect.Struct:
			for i := range v.NumField() {
				c.Field(i).Set(deep(v.Field(i)))
			}
		case reflect.Slice:
			if !v.IsNil() {
				c.Set(reflect.MakeSlice(v.Type(), v.Len(), v.Len()))
			}
			for i := range v.Len() {
				c.Index(i).Set(deep(v.Index(i)))
			}
		default:
			c.Set(v)
		}
		return c
	}
	return deep(reflect.ValueOf(d)).Interface().(api.Desk)
}

// memory is where a list lies, up to its capacity.
type memory struct {
	name      string
	low, high uintptr
}

func memoryOf(name string, v reflect.Value) []memory {
	var all []memory
	switch v.Kind() {
	case reflect.Struct:
		for i := range v.NumField() {
			all = append(all, memoryOf(name+" "+v.Type().Field(i).Name, v.Field(i))...)
		}
	case reflect.Slice:
		if v.Cap() > 0 {
			low := v.Pointer()
			all = append(all, memory{name, low, low + uintptr(v.Cap())*v.Type().Elem().Size()})
		}
		for i := range v.Len() {
			all = append(all, memoryOf(fmt.Sprint(name, " ", i), v.Index(i))...)
		}
	}
	return all
}

// wantApart wants that no two lists share memory.
func wantApart(t *testing.T, values ...any) {
	t.Helper()
	var all []memory
	for i, v := range values {
		all = append(all, memoryOf(fmt.Sprint(i), reflect.ValueOf(v))...)
	}
	for i, a := range all {
		for _, b := range all[:i] {
			if a.low < b.high && b.low < a.high {
				t.Errorf("%s and %s share memory", a.name, b.name)
			}
		}
	}
}

// overwritten changes all numbers of a desk, in its memory.
func overwritten(d api.Desk) {
	numbersIn(reflect.ValueOf(&d).Elem(), "", func(_ string, v reflect.Value) { v.SetInt(-77) })
}

// Arguments stay as they are, results are new memory, and the same is returned each time.
func TestP1Memory(t *testing.T) {
	for _, script := range [][]string{nil, {"most"}, busy(), words(), slices.Repeat([]string{"piece 1 60 0 0 0 1"}, 4), slices.Repeat([]string{"wish 1 2 3 4 5 6 7"}, 2)} {
		d := laden()
		lines := slices.Clone(script)
		before, said := copied(d), slices.Clone(script)
		answers, after := run(t, d, lines...)
		wantApart(t, d, lines, answers, after)
		is, was := slices.Clone(answers), copied(after)
		overwritten(after)
		clear(answers)
		if !reflect.DeepEqual(d, before) || !slices.Equal(lines, said) {
			t.Errorf("%+v became %+v; %q", before, d, lines)
		}
		if again, after := run(t, d, lines...); !slices.Equal(again, is) || !reflect.DeepEqual(after, was) {
			t.Errorf("%q, %+v; then %q, %+v", is, was, again, after)
		}
	}
}

// The capacity of lists does not matter, and nothing behind their ends is changed.
func TestP1Capacity(t *testing.T) {
	answers, after := run(t, laden(), busy()...)
	d := laden()
	s, c := &d.Shop, &d.Counter
	s.Workshop.Table = append(s.Workshop.Table, trial(-7, 0, 0, 0))
	s.Stock, s.Pieces, s.Wishes, s.Deliveries = append(s.Stock, -7), append(s.Pieces, piece(-7, 0, 0, 0)), append(s.Wishes, wish(-7, 0, 0, 0, 0)), append(s.Deliveries, delivery(-7, 0, 0))
	c.Slips, c.Voided = append(c.Slips, lent(-7, 0, 0, 0, 0)), append(c.Voided, -7)
	longer, before := d, copied(d)
	s.Workshop.Table, s.Stock, s.Pieces, s.Wishes, s.Deliveries = s.Workshop.Table[:1], s.Stock[:4], s.Pieces[:4], s.Wishes[:4], s.Deliveries[:2]
	c.Slips, c.Voided = c.Slips[:5], c.Voided[:2]
	script := append(busy(), "behind")
	is, end := run(t, d, script[:len(script)-1]...)
	if !slices.Equal(is, answers) || !same(end, after) {
		t.Errorf("%q, %+v; want %q, %+v", is, end, answers, after)
	}
	if !reflect.DeepEqual(longer, before) || script[len(script)-1] != "behind" {
		t.Errorf("%+v became %+v", before, longer)
	}
}

// An empty list is as none.
func TestP1Empty(t *testing.T) {
	var d, empty api.Desk
	d.Counter.Tariff = deskD().Counter.Tariff
	empty.Counter = api.Counter{Clerks: []api.Span{}, Slips: []api.Slip{}, Voided: []int{}, Closed: []api.Span{}, Tariff: d.Counter.Tariff}
	empty.Shop = api.Shop{
		Workshop: api.Workshop{Spares: []api.Spare{}, Makes: []api.Make{}, Table: []api.Trial{}},
		Stock:    []int{}, Pieces: []api.Piece{}, Wishes: []api.Wish{}, Deliveries: []api.Delivery{},
	}
	for _, script := range [][]string{nil, {}, words(), busy()} {
		is, after := run(t, d, script...)
		was, end := run(t, empty, script...)
		if !slices.Equal(is, was) || !same(after, end) {
			t.Errorf("%q, %+v; %q, %+v", is, after, was, end)
		}
	}
	none := deskD(func(d *api.Desk) { d.Shop.Workshop.Table, d.Shop.Workshop.Makes[1].Slots = nil, nil })
	none.Shop.Pieces, none.Shop.Deliveries = none.Shop.Pieces[1:2], nil
	other := copied(none)
	other.Shop.Workshop.Table, other.Shop.Workshop.Makes[1].Slots, other.Shop.Pieces[0].Broken, other.Shop.Deliveries = []api.Trial{}, []api.Slot{}, []int{}, []api.Delivery{}
	is, after := run(t, none, words()...)
	if was, end := run(t, other, words()...); !slices.Equal(is, was) || !same(after, end) {
		t.Errorf("%q, %+v; %q, %+v", is, after, was, end)
	}
}
