package orders_test

import (
	"math"
	"reflect"
	"slices"
	"strconv"
	"testing"

	"ferrule/api"
	"ferrule/orders"
)

// laden is a valid shop of which any one number can be changed.
func laden() api.Shop {
	return api.Shop{
		Workshop: api.Workshop{
			Spares: []api.Spare{spare(1, 2, 300, 310), spare(1, 3, 305, 305), spare(2, 1, 50, 60)},
			Makes: []api.Make{
				maker(slot(1, 300, 306, 2, 3), slot(2, 40, 58, 1), slot(1, 0, 9), slot(1, 304, 305, 3)),
				maker(slot(1, 310, 326, 2), slot(2, 50, 60, 1)), maker(),
			},
			Cut: 5, Table: []api.Trial{trial(0, 1, 0, 0)},
		},
		Stock:      []int{3, 0, 10},
		Pieces:     []api.Piece{piece(1, 60, 0, 0, 0, 1, 3), piece(2, 99, 7, 2), piece(0, 0, 9, 1, 1)},
		Wishes:     []api.Wish{wish(span(55, 65), 7, 40, 500, 1, 2, 60), wish(span(0, 99), 0, 99, 100000, 0)},
		Deliveries: []api.Delivery{delivery(4, 2, 1), delivery(99, 0, 10)},
		Carve:      2,
	}
}

// number is one number of a shop, set and checked by itself.
type number struct {
	name      string
	set       func(s *api.Shop, n int)
	low, high int // the least and the greatest one that is valid in the shop laden
}

func numbers() []number {
	all := []number{{"Carve", func(s *api.Shop, n int) { s.Carve = n }, 0, 99}}
	for i := range laden().Stock {
		all = append(all, number{"Stock of " + strconv.Itoa(i), func(s *api.Shop, n int) { s.Stock[i] = n }, 0, 10})
	}
	for i := range laden().Pieces {
		all = append(all, numbersOfPiece(i)...)
	}
	for i := range laden().Wishes {
		all = append(all, numbersOfWish(i)...)
	}
	for i := range laden().Deliveries {
		of := " of the delivery " + strconv.Itoa(i)
		all = append(all,
			number{"Day" + of, func(s *api.Shop, n int) { s.Deliveries[i].Day = n }, 0, 99},
			number{"Spare" + of, func(s *api.Shop, n int) { s.Deliveries[i].Spare = n }, 0, 2},
			number{"Many" + of, func(s *api.Shop, n int) { s.Deliveries[i].Many = n }, 1, 10},
		)
	}
	return all
}

func numbersOfPiece(i int) []number {
	of := " of the piece " + strconv.Itoa(i)
	p := laden().Pieces[i]
	makes := map[int]int{0: 0, 1: 2, 2: 1}[i] // the greatest make that has its broken slots
	all := []number{
		{"Color" + of, func(s *api.Shop, n int) { s.Pieces[i].Color = n }, 0, 99},
		{"Size" + of, func(s *api.Shop, n int) { s.Pieces[i].Size = n }, 0, 99},
		{"Letter" + of, func(s *api.Shop, n int) { s.Pieces[i].Letter = n }, 0, 99},
		{"Make" + of, func(s *api.Shop, n int) { s.Pieces[i].Make = n }, 0, makes},
	}
	slots := len(laden().Workshop.Makes[p.Make].Slots)
	for k := range p.Broken {
		low, high := between(p.Broken, k, 0, slots-1)
		all = append(all, number{"broken slot " + strconv.Itoa(k) + of, func(s *api.Shop, n int) { s.Pieces[i].Broken[k] = n }, low, high})
	}
	return all
}

func numbersOfWish(i int) []number {
	of := " of the wish " + strconv.Itoa(i)
	w := laden().Wishes[i]
	all := []number{
		{"Low" + of, func(s *api.Shop, n int) { s.Wishes[i].Size.Low = n }, 0, w.Size.High},
		{"High" + of, func(s *api.Shop, n int) { s.Wishes[i].Size.High = n }, w.Size.Low, 99},
		{"Letter" + of, func(s *api.Shop, n int) { s.Wishes[i].Letter = n }, 0, 99},
		{"Due" + of, func(s *api.Shop, n int) { s.Wishes[i].Due = n }, 0, 99},
		{"Price" + of, func(s *api.Shop, n int) { s.Wishes[i].Price = n }, 0, 100000},
	}
	for k := range w.Colors {
		low, high := between(w.Colors, k, 0, 99)
		all = append(all, number{"color " + strconv.Itoa(k) + of, func(s *api.Shop, n int) { s.Wishes[i].Colors[k] = n }, low, high})
	}
	return all
}

// between is from where to where the element k of a list can be, such that it still ascends from low to high.
func between(list []int, k, low, high int) (int, int) {
	if k > 0 {
		low = list[k-1] + 1
	}
	if k+1 < len(list) {
		high = list[k+1] - 1
	}
	return low, high
}

// wrongs are changes each of which alone makes the shop laden invalid, but not its workshop.
func wrongs() map[string]func(s *api.Shop) {
	all := map[string]func(s *api.Shop){
		"no stock":                 func(s *api.Shop) { s.Stock = nil },
		"a number too few":         func(s *api.Shop) { s.Stock = s.Stock[:2] },
		"a number too many":        func(s *api.Shop) { s.Stock = append(s.Stock, 0) },
		"many numbers":             func(s *api.Shop) { s.Stock = make([]int, 1000) },
		"a stock without spares":   func(s *api.Shop) { s.Workshop.Spares, s.Workshop.Table = nil, nil },
		"nine pieces":              func(s *api.Shop) { s.Pieces = slices.Repeat(s.Pieces, 3) },
		"many pieces":              func(s *api.Shop) { s.Pieces = slices.Repeat(s.Pieces, 300) },
		"the last of eight pieces": func(s *api.Shop) { s.Pieces = append(slices.Repeat(s.Pieces[1:2], 7), piece(0, 0, 0, 3)) },
		"pieces without makes":     func(s *api.Shop) { s.Workshop.Makes, s.Workshop.Table = nil, nil },
		"a slot twice":             func(s *api.Shop) { s.Pieces[0].Broken = []int{0, 1, 1} },
		"slots that descend":       func(s *api.Shop) { s.Pieces[0].Broken = []int{1, 0} },
		"a slot twice at last":     func(s *api.Shop) { s.Pieces[0].Broken = []int{0, 1, 3, 3} },
		"five slots":               func(s *api.Shop) { s.Pieces[0].Broken = []int{0, 1, 2, 3, 4} },
		"many slots":               func(s *api.Shop) { s.Pieces[0].Broken = make([]int, 1000) },
		"a slot of no slots":       func(s *api.Shop) { s.Pieces[1].Broken = []int{0} },
		"a slot of another make":   func(s *api.Shop) { s.Pieces[2].Broken = []int{0, 1, 2} },
		"seven wishes":             func(s *api.Shop) { s.Wishes = append(slices.Repeat(s.Wishes, 3), s.Wishes[0]) },
		"many wishes":              func(s *api.Shop) { s.Wishes = slices.Repeat(s.Wishes, 500) },
		"the last of six wishes":   func(s *api.Shop) { s.Wishes = append(slices.Repeat(s.Wishes[:1], 5), wish(span(0, 0), 0, 0, 0)) },
		"no colors":                func(s *api.Shop) { s.Wishes[0].Colors = nil },
		"no colors, but a list":    func(s *api.Shop) { s.Wishes[1].Colors = []int{} },
		"nine colors":              func(s *api.Shop) { s.Wishes[0].Colors = []int{1, 2, 3, 4, 5, 6, 7, 8, 9} },
		"many colors":              func(s *api.Shop) { s.Wishes[0].Colors = make([]int, 1000) },
		"a color twice":            func(s *api.Shop) { s.Wishes[0].Colors = []int{1, 2, 2} },
		"colors that descend":      func(s *api.Shop) { s.Wishes[0].Colors = []int{2, 1, 3} },
		"sizes that are turned":    func(s *api.Shop) { s.Wishes[0].Size = span(66, 65) },
		"sizes below 0":            func(s *api.Shop) { s.Wishes[0].Size = span(-2, -1) },
		"sizes above all":          func(s *api.Shop) { s.Wishes[0].Size = span(100, 100) },
		"sizes of all numbers":     func(s *api.Shop) { s.Wishes[0].Size = span(math.MinInt, math.MaxInt) },
		"nine deliveries":          func(s *api.Shop) { s.Deliveries = append(slices.Repeat(s.Deliveries, 4), s.Deliveries[0]) },
		"many deliveries":          func(s *api.Shop) { s.Deliveries = slices.Repeat(s.Deliveries, 500) },
		"the last of eight deliveries": func(s *api.Shop) {
			s.Deliveries = append(slices.Repeat(s.Deliveries[:1], 7), delivery(0, 0, 0))
		},
		"a delivery without spares": func(s *api.Shop) { s.Workshop.Spares, s.Workshop.Table, s.Stock = nil, nil, nil },
	}
	for _, x := range numbers() {
		for name, n := range map[string]int{
			" too small": x.low - 1, " too great": x.high + 1, " least of all": math.MinInt, " greatest of all": math.MaxInt,
		} {
			all[x.name+name] = func(s *api.Shop) { x.set(s, n) }
		}
	}
	return all
}

// worse are changes that make the workshop of the shop laden invalid, or its trials clash.
func worse() map[api.Errno][]func(s *api.Shop) {
	return map[api.Errno][]func(s *api.Shop){
		api.ErrWorkshop: {
			func(s *api.Shop) { s.Workshop.Cut = -1 }, func(s *api.Shop) { s.Workshop.Spares = make([]api.Spare, 11) },
			func(s *api.Shop) { s.Workshop.Spares[2].Length.Low = 61 }, func(s *api.Shop) { s.Workshop.Makes[1].Slots[1].Sections = []int{1, 1} },
			func(s *api.Shop) { s.Workshop.Table = append(s.Workshop.Table, trial(0, 1, 0, 1), trial(0, 3, 0, 0)) },
		},
		api.ErrTrial: {
			func(s *api.Shop) { s.Workshop.Table = append(s.Workshop.Table, trial(0, 1, 0, 1)) },
			func(s *api.Shop) {
				s.Workshop.Table = []api.Trial{trial(1, 0, 0, 1), trial(2, 0, 1, 1), trial(1, 0, 0, 0)}
			},
		},
	}
}

// untrue are changes with which the workshop of the shop laden has no truth.
func untrue() []func(s *api.Shop) {
	tried := func(t api.Trial) func(s *api.Shop) {
		return func(s *api.Shop) { s.Workshop.Table = append(s.Workshop.Table, t) }
	}
	return []func(s *api.Shop){
		tried(trial(1, 0, 0, 0)), tried(trial(2, 0, 1, 0)), tried(trial(1, 1, 0, 1)), tried(trial(0, 0, 2, 1)),
		func(s *api.Shop) {
			*s = shop(works(1, [][]int{{0}}), 0, []int{0}, nil, nil)
			tried(trial(0, 0, 0, 0))(s)
		},
	}
}

// changed is the shop laden with something else in it.
func changed(changes ...func(s *api.Shop)) api.Shop {
	s := laden()
	for _, change := range changes {
		change(&s)
	}
	return s
}

func TestP8_1Check(t *testing.T) {
	for _, x := range numbers() {
		for _, n := range []int{x.low, (x.low + x.high) / 2, x.high} {
			if e := orders.Check(changed(func(s *api.Shop) { x.set(s, n) })); e != api.OK {
				t.Errorf("%s of %d: error %d", x.name, n, e)
			}
		}
	}
	for name, wrong := range wrongs() {
		if e := orders.Check(changed(wrong)); e != api.ErrShop {
			t.Errorf("%s: error %d", name, e)
		}
	}
	for want, all := range worse() {
		for i, change := range all {
			if e := orders.Check(changed(change)); e != want {
				t.Errorf("%d: error %d; want %d", i, e, want)
			}
		}
	}
}

func TestP8_1CheckEnds(t *testing.T) {
	works := api.Workshop{
		Spares: make([]api.Spare, api.MaxSpares), Makes: slices.Repeat([]api.Make{maker(make([]api.Slot, api.MaxSlots)...)}, api.MaxMakes),
	}
	many := shop(works, 99, slices.Repeat([]int{10}, 10),
		slices.Repeat([]api.Piece{piece(99, 99, 99, 5, 0, 1, 2, 3)}, 8),
		slices.Repeat([]api.Wish{wish(span(99, 99), 99, 99, 100000, 0, 1, 2, 3, 4, 5, 98, 99)}, 6),
		slices.Repeat([]api.Delivery{delivery(99, 9, 10)}, 8)...)
	all := []api.Shop{
		{}, {Carve: 99}, {Workshop: works, Stock: make([]int, 10)}, {Workshop: api.Workshop{Makes: make([]api.Make, 1)}, Pieces: make([]api.Piece, 8)},
		{Wishes: slices.Repeat([]api.Wish{plain(0, 0)}, 6)}, laden(), shopX(), many,
	}
	for _, change := range untrue() { // a shop without a truth is valid
		all = append(all, changed(change))
	}
	for i, s := range all {
		if e := orders.Check(s); e != api.OK {
			t.Errorf("%d: error %d", i, e)
		}
	}
}

// asked is what is asked of a shop.
type asked struct {
	wish, piece, delivery int
	plan                  []int
}

// first are questions that can be asked of the shop laden.
func first() asked { return asked{plan: []int{1, none}} }

// answer is what a function returned, and whether it returned nothing but an error.
type answer struct {
	name  string
	value any
	zero  bool
	e     api.Errno
}

func answerOf[T any](name string, value T, e api.Errno) answer {
	v := reflect.ValueOf(value)
	zero := v.IsZero() || v.Kind() == reflect.Slice && v.Len() == 0
	return answer{name, value, zero, e}
}

func ofSuits(s api.Shop, a asked) []answer {
	suits, e := orders.Suits(s, a.wish, a.piece)
	return []answer{answerOf("Suits", suits, e)}
}

func ofWish(s api.Shop, a asked) []answer {
	can, e := orders.Can(s, a.wish)
	return []answer{answerOf("Can", can, e)}
}

func ofPlan(s api.Shop, a asked) []answer {
	takes, e := orders.Takes(s, a.plan)
	return []answer{answerOf("Takes", takes, e)}
}

func ofDelivery(s api.Shop, a asked) []answer {
	without, e := orders.Without(s, a.delivery)
	return []answer{answerOf("Without", without, e)}
}

func ofAll(s api.Shop, _ asked) []answer {
	most, e := orders.Most(s)
	plan, f := orders.Plan(s)
	extra, g := orders.Extra(s)
	return []answer{answerOf("Most", most, e), answerOf("Plan", plan, f), answerOf("Extra", extra, g)}
}

// ofTruth are the answers of all functions that look for a truth.
func ofTruth(s api.Shop, a asked) []answer {
	return slices.Concat(ofWish(s, a), ofPlan(s, a), ofDelivery(s, a), ofAll(s, a))
}

func allOf(s api.Shop, a asked) []answer { return append(ofTruth(s, a), ofSuits(s, a)...) }

func wantErrors(t *testing.T, what string, all []answer, e api.Errno) {
	t.Helper()
	for _, x := range all {
		if x.e != e || !x.zero {
			t.Errorf("%s: %s = %v, error %d; want error %d", what, x.name, x.value, x.e, e)
		}
	}
}

// invalid is a question that is invalid for the shop laden, and all answers to it.
type invalid struct {
	name   string
	change func(a *asked)
	of     func(s api.Shop, a asked) []answer
}

func invalids() []invalid {
	var all []invalid
	add := func(name string, of func(s api.Shop, a asked) []answer, change func(a *asked)) {
		all = append(all, invalid{name, change, of})
	}
	for _, n := range []int{-1, 3, 4, math.MinInt, math.MaxInt} {
		add("another piece", ofSuits, func(a *asked) { a.piece = n })
	}
	for _, n := range []int{-1, 2, 3, math.MinInt, math.MaxInt} {
		add("another wish", ofSuits, func(a *asked) { a.wish = n })
		add("another wish", ofWish, func(a *asked) { a.wish = n })
		add("another delivery", ofDelivery, func(a *asked) { a.delivery = n })
	}
	for _, l := range [][]int{
		nil, {}, {1}, {none}, {1, none, none}, {none, none, 1}, make([]int, 1000), {3, none}, {none, 3}, {-2, none}, {none, -2},
		{1, 1}, {0, 0}, {math.MaxInt, none}, {none, math.MinInt}, {0, 1, 2},
	} {
		add("an invalid plan", ofPlan, func(a *asked) { a.plan = l })
	}
	return all
}

// An invalid workshop comes before trials that clash, these before an invalid
// shop, and this one before questions that are invalid.
func TestP1InvalidShops(t *testing.T) {
	wilds := []asked{first(), {-1, -1, -1, nil}, {math.MaxInt, math.MinInt, math.MaxInt, []int{9}}}
	for name, wrong := range wrongs() {
		for _, a := range wilds {
			wantErrors(t, name, allOf(changed(wrong), a), api.ErrShop)
			wantErrors(t, name+", no truth", allOf(changed(wrong, func(s *api.Shop) {
				if len(s.Workshop.Spares) == 3 && len(s.Workshop.Makes) == 3 {
					s.Workshop.Table = []api.Trial{trial(1, 0, 0, 0)}
				}
			}), a), api.ErrShop)
		}
	}
	for e, all := range worse() {
		for _, change := range all {
			for _, a := range wilds {
				wantErrors(t, "an invalid workshop", allOf(changed(change), a), e)
				for _, x := range numbers()[:8] {
					s := changed(change, func(s *api.Shop) { x.set(s, x.high+1) })
					wantErrors(t, "an invalid workshop of an invalid shop", append(allOf(s, a), answerOf("Check", 0, orders.Check(s))), e)
				}
			}
		}
	}
	clashing := worse()[api.ErrTrial]
	for _, wrong := range worse()[api.ErrWorkshop] {
		for _, clash := range clashing {
			wantErrors(t, "trials that clash in an invalid workshop", allOf(changed(clash, wrong), first()), api.ErrWorkshop)
		}
	}
}

// Questions that are invalid come before workshops without a truth.
func TestP1InvalidQuestions(t *testing.T) {
	lost := func(s *api.Shop) { s.Workshop.Table = []api.Trial{trial(1, 0, 0, 0)} }
	for _, s := range []api.Shop{laden(), changed(lost)} {
		for _, x := range invalids() {
			a := first()
			x.change(&a)
			wantErrors(t, x.name, x.of(s, a), api.ErrArg)
		}
	}
	for _, a := range []asked{first(), {1, 2, 1, []int{none, 2}}, {plan: []int{none, none}}} {
		for _, x := range slices.Concat(ofSuits(laden(), a), ofWish(laden(), a), ofDelivery(laden(), a)) {
			if x.e != api.OK {
				t.Errorf("%s: error %d", x.name, x.e)
			}
		}
	}
	// nothing is one of a shop of nothing, but it has a plan
	var nothing api.Shop
	wantErrors(t, "nothing", slices.Concat(ofSuits(nothing, asked{}), ofWish(nothing, asked{}), ofDelivery(nothing, asked{})), api.ErrArg)
	for _, x := range append(ofAll(nothing, asked{}), ofPlan(nothing, asked{})...) {
		if x.e != api.OK || !x.zero {
			t.Errorf("%s of nothing = %v, error %d", x.name, x.value, x.e)
		}
	}
}

// Without a truth nothing can be filled, not even a plan without pieces; but what suits does so.
func TestP1NoTruth(t *testing.T) {
	for i, change := range untrue()[:4] {
		s := changed(change)
		for _, a := range []asked{first(), {plan: []int{none, none}}, {1, 1, 1, []int{2, 1}}} {
			wantErrors(t, strconv.Itoa(i), ofTruth(s, a), api.ErrNone)
			for _, x := range ofSuits(s, a) {
				if x.e != api.OK {
					t.Errorf("%d: Suits: error %d", i, x.e)
				}
			}
		}
	}
	lost := changed(untrue()[4])
	wantErrors(t, "no wishes", append(ofAll(lost, asked{}), ofPlan(lost, asked{})...), api.ErrNone)
}

// Takes returns ErrNone of plans that are ones, but cannot be filled.
func TestP1PlansThatCannotBe(t *testing.T) {
	for _, x := range planneds() {
		if x.want == noPlan {
			wantErrors(t, "a plan that cannot be filled", ofPlan(x.s, asked{plan: x.plan}), api.ErrNone)
		}
	}
}

func copied(s api.Shop) api.Shop {
	w := &s.Workshop
	w.Spares, w.Makes, w.Table = slices.Clone(w.Spares), slices.Clone(w.Makes), slices.Clone(w.Table)
	for i, m := range w.Makes {
		w.Makes[i].Slots = slices.Clone(m.Slots)
		for k, x := range m.Slots {
			w.Makes[i].Slots[k].Sections = slices.Clone(x.Sections)
		}
	}
	s.Stock, s.Pieces, s.Wishes, s.Deliveries = slices.Clone(s.Stock), slices.Clone(s.Pieces), slices.Clone(s.Wishes), slices.Clone(s.Deliveries)
	for i, p := range s.Pieces {
		s.Pieces[i].Broken = slices.Clone(p.Broken)
	}
	for i, w := range s.Wishes {
		s.Wishes[i].Colors = slices.Clone(w.Colors)
	}
	return s
}

// Arguments stay as they are, results are new memory, and the same is returned each time.
func TestP1Memory(t *testing.T) {
	var shops []api.Shop
	for _, x := range bests() {
		if len(x.s.Wishes) > 0 && len(x.s.Pieces) > 0 && len(x.s.Deliveries) > 0 {
			shops = append(shops, x.s)
		}
	}
	for _, s := range append(shops, laden()) {
		a := asked{plan: slices.Repeat([]int{none}, len(s.Wishes))}
		a.plan[0] = 0
		before, plan := copied(s), slices.Clone(a.plan)
		was := allOf(s, a)
		for _, x := range allOf(s, a) {
			if list, ok := x.value.([]int); ok {
				clear(list[:cap(list)])
			}
		}
		if !reflect.DeepEqual(s, before) || !slices.Equal(a.plan, plan) {
			t.Errorf("%v, %v became %v, %v", before, plan, s, a.plan)
		}
		if again := allOf(s, a); !reflect.DeepEqual(was, again) {
			t.Errorf("%v: %v, then %v", before, was, again)
		}
	}
}

// The capacity of lists does not matter, and nothing behind their ends is changed.
func TestP1Capacity(t *testing.T) {
	s := shopX()
	a := asked{plan: []int{1, 0, 2, none}}
	want := allOf(s, a)
	more := api.Shop{
		Stock: append(s.Stock, -1), Pieces: append(s.Pieces, piece(-1, 0, 0, 0)), Wishes: append(s.Wishes, wish(span(0, -1), 0, 0, -1)),
		Deliveries: append(s.Deliveries, delivery(-1, -1, -1)),
	}
	before := copied(more)
	s.Stock, s.Pieces, s.Wishes, s.Deliveries = more.Stock[:4], more.Pieces[:4], more.Wishes[:4], more.Deliveries[:2]
	plan := append(a.plan, 77)
	a.plan = plan[:4]
	for delivery, n := range []int{1600, 1200} {
		a.delivery = delivery
		if is := ofDelivery(s, a); is[0].value != n || is[0].e != api.OK {
			t.Errorf("Without of %d: %v", delivery, is)
		}
	}
	a.delivery = 0
	if is := allOf(s, a); !reflect.DeepEqual(is, want) {
		t.Errorf("%v; want %v", is, want)
	}
	if !reflect.DeepEqual(more, before) || plan[4] != 77 {
		t.Errorf("%v, %v; want %v", more, plan, before)
	}
}

// An empty list is as none.
func TestP1Empty(t *testing.T) {
	none := api.Shop{
		Workshop: api.Workshop{Spares: []api.Spare{}, Makes: []api.Make{}, Table: []api.Trial{}},
		Stock:    []int{}, Pieces: []api.Piece{}, Wishes: []api.Wish{}, Deliveries: []api.Delivery{},
	}
	if was, is := allOf(api.Shop{}, asked{}), allOf(none, asked{plan: []int{}}); !reflect.DeepEqual(was, is) {
		t.Errorf("%v; %v", was, is)
	}
	v := shop(works(1, [][]int{{0}, nil}), 2, []int{1}, []api.Piece{broken(0), broken(0, 0)}, []api.Wish{lettered(2, 5)})
	w := copied(v)
	w.Pieces[0].Broken, w.Deliveries, w.Workshop.Table, w.Workshop.Makes[0].Slots[1].Sections = []int{}, []api.Delivery{}, []api.Trial{}, []int{}
	if was, is := allOf(v, asked{plan: []int{0}}), allOf(w, asked{plan: []int{0}}); !reflect.DeepEqual(was, is) {
		t.Errorf("%v; %v", was, is)
	}
}
