package orders_test

import (
	"slices"
	"testing"

	"ferrule/api"
	"ferrule/orders"
)

const (
	none    = -1 // the piece of a wish that has none
	noPlan  = -1 // what is taken if a plan cannot be filled, or lacks if none can be
	letterA = 1  // what pieces and wishes of the tests have that must be carved
)

func span(low, high int) api.Span { return api.Span{Low: low, High: high} }

func spare(kind, section, low, high int) api.Spare {
	return api.Spare{Kind: kind, Section: section, Length: span(low, high)}
}

func slot(kind, low, high int, sections ...int) api.Slot {
	return api.Slot{Kind: kind, Sections: sections, Length: span(low, high)}
}

func maker(slots ...api.Slot) api.Make { return api.Make{Slots: slots} }

func trial(spare, maker, slot, fits int) api.Trial {
	return api.Trial{Spare: spare, Make: maker, Slot: slot, Fits: fits}
}

func piece(color, size, letter, maker int, broken ...int) api.Piece {
	return api.Piece{Color: color, Size: size, Letter: letter, Make: maker, Broken: broken}
}

func wish(size api.Span, letter, due, price int, colors ...int) api.Wish {
	return api.Wish{Colors: colors, Size: size, Letter: letter, Due: due, Price: price}
}

func delivery(day, spare, many int) api.Delivery {
	return api.Delivery{Day: day, Spare: spare, Many: many}
}

// workshopW is the workshop W of the chapter 7, with more trials.
func workshopW(more ...api.Trial) api.Workshop {
	return api.Workshop{
		Spares: []api.Spare{spare(1, 2, 300, 310), spare(1, 3, 305, 305), spare(2, 1, 50, 60), spare(1, 2, 320, 330)},
		Makes:  []api.Make{maker(slot(1, 300, 306, 2, 3), slot(2, 40, 58, 1)), maker(slot(1, 310, 326, 2))},
		Cut:    5, Table: append([]api.Trial{trial(0, 1, 0, 0)}, more...),
	}
}

// shopX is the shop X of the chapter's examples, with something else in it.
func shopX(changes ...func(s *api.Shop)) api.Shop {
	s := api.Shop{
		Workshop: workshopW(), Stock: []int{1, 0, 0, 0},
		Pieces: []api.Piece{piece(1, 60, 0, 0, 0), piece(1, 60, 7, 0), piece(2, 65, 0, 1, 0), piece(2, 60, 0, 0, 0, 1)},
		Wishes: []api.Wish{
			wish(span(55, 65), 7, 3, 500, 1), wish(span(60, 60), 0, 5, 400, 1, 2),
			wish(span(60, 70), 9, 8, 700, 2), wish(span(65, 65), 0, 5, 300, 2),
		},
		Deliveries: []api.Delivery{delivery(4, 2, 1), delivery(6, 3, 1)}, Carve: 2,
	}
	for _, change := range changes {
		change(&s)
	}
	return s
}

// works is a workshop of so many spares of known lengths. A make has for each of
// its slots a list of the spares that fit it.
func works(spares int, makes ...[][]int) api.Workshop {
	var w api.Workshop
	for i := range spares {
		w.Spares = append(w.Spares, spare(0, i, 5, 5))
	}
	for _, slots := range makes {
		var m api.Make
		for _, fit := range slots {
			m.Slots = append(m.Slots, slot(0, 5, 5, fit...))
		}
		w.Makes = append(w.Makes, m)
	}
	return w
}

// broken is a piece that suits all wishes made by plain and lettered, with broken slots of a make.
func broken(maker int, slots ...int) api.Piece { return piece(0, 0, 0, maker, slots...) }

// plain is a wish for any piece made by broken, as it is.
func plain(due, price int) api.Wish { return wish(span(0, 0), 0, due, price, 0) }

// lettered is a wish for any piece made by broken, carved.
func lettered(due, price int) api.Wish { return wish(span(0, 0), letterA, due, price, 0) }

// shop is a workshop with a stock, and the rest.
func shop(w api.Workshop, carve int, stock []int, pieces []api.Piece, wishes []api.Wish, deliveries ...api.Delivery) api.Shop {
	return api.Shop{Workshop: w, Stock: stock, Pieces: pieces, Wishes: wishes, Deliveries: deliveries, Carve: carve}
}

// suited is a wish, a piece, and how it suits.
type suited struct {
	w    api.Wish
	p    api.Piece
	want int
}

func suiteds() []suited {
	of := func(w api.Wish, letter, want int) suited { return suited{w, piece(3, 20, letter, 0), want} }
	sized := func(low, high, want int) suited { return of(wish(span(low, high), 4, 0, 0, 3), 4, want) }
	colored := func(want int, colors ...int) suited { return of(wish(span(20, 20), 4, 0, 0, colors...), 4, want) }
	lettered := func(wished, has, want int) suited { return of(wish(span(20, 20), wished, 0, 0, 3), has, want) }
	return []suited{
		sized(20, 20, api.AsItIs), sized(0, 99, api.AsItIs), sized(20, 30, api.AsItIs), sized(10, 20, api.AsItIs), sized(10, 19, api.Unsuited), sized(21, 30, api.Unsuited), sized(0, 0, api.Unsuited), sized(99, 99, api.Unsuited),
		colored(api.AsItIs, 3), colored(api.AsItIs, 0, 3), colored(api.AsItIs, 3, 99), colored(api.AsItIs, 0, 1, 2, 3, 4, 5, 6, 7), colored(api.Unsuited, 2), colored(api.Unsuited, 4), colored(api.Unsuited, 2, 4), colored(api.Unsuited, 0, 1, 2, 4, 5, 6, 7, 99),
		lettered(4, 4, api.AsItIs), lettered(0, 0, api.AsItIs), lettered(99, 99, api.AsItIs), lettered(4, 0, api.Carved), lettered(1, 0, api.Carved), lettered(99, 0, api.Carved),
		lettered(0, 4, api.Unsuited), lettered(4, 5, api.Unsuited), lettered(5, 4, api.Unsuited), lettered(0, 1, api.Unsuited), lettered(1, 99, api.Unsuited),
		// a letter that can be carved does not help what is of another colour or size
		of(wish(span(20, 20), 4, 0, 0, 2), 0, api.Unsuited), of(wish(span(21, 22), 4, 0, 0, 3), 0, api.Unsuited), of(wish(span(21, 22), 4, 0, 0, 2), 4, api.Unsuited),
	}
}

func TestP8_2Suits(t *testing.T) {
	for wish, row := range [][]int{{2, 1, 0, 0}, {1, 0, 0, 1}, {0, 0, 2, 2}, {0, 0, 1, 0}} {
		for piece, want := range row {
			if n, e := orders.Suits(shopX(), wish, piece); n != want || e != api.OK {
				t.Errorf("Suits of %d, %d = %d, error %d; want %d", wish, piece, n, e, want)
			}
		}
	}
	for i, x := range suiteds() {
		s := shop(works(0, nil), 99, nil, []api.Piece{x.p}, []api.Wish{x.w})
		if n, e := orders.Suits(s, 0, 0); n != x.want || e != api.OK {
			t.Errorf("%d: Suits = %d, error %d; want %d", i, n, e, x.want)
		}
	}
}

// Whether a piece suits does not depend on days, on spares, or on a truth.
func TestP8_2SuitsWhenever(t *testing.T) {
	pieces := []api.Piece{broken(0, 0), broken(1, 0)}
	late := shop(works(1, [][]int{{0}}, [][]int{nil}), 5, []int{0}, pieces, []api.Wish{lettered(4, 1), plain(0, 1)})
	lost := late
	lost.Workshop.Table = []api.Trial{trial(0, 0, 0, 0)}
	for _, s := range []api.Shop{late, lost} {
		for piece := range pieces {
			n, e := orders.Suits(s, 0, piece)
			m, f := orders.Suits(s, 1, piece)
			if n != api.Carved || e != api.OK || m != api.AsItIs || f != api.OK {
				t.Errorf("Suits of %d = %d, error %d; %d, error %d", piece, n, e, m, f)
			}
		}
	}
}

// offered is a shop, and the pieces with which each wish alone can be filled.
type offered struct {
	s    api.Shop
	want [][]int
}

func offereds() []offered {
	lone := func(due, carve int, stock []int, w api.Workshop, p api.Piece, want []int, deliveries ...api.Delivery) offered {
		return offered{shop(w, carve, stock, []api.Piece{p}, []api.Wish{lettered(due, 1)}, deliveries...), [][]int{want}}
	}
	yes, one := []int{0}, works(1, [][]int{{0}, {0}, nil})
	both := works(2, [][]int{{0}, {0, 1}, {1}})
	x := func(want [][]int, change func(s *api.Shop)) offered { return offered{shopX(change), want} }
	due := func(want []int, wish, due int) offered {
		all := [][]int{{0, 1}, {0, 3}, {2, 3}, nil}
		all[wish] = want
		return x(all, func(s *api.Shop) { s.Wishes[wish].Due = due })
	}
	return []offered{
		{shopX(), [][]int{{0, 1}, {0, 3}, {2, 3}, nil}},
		due([]int{0, 1}, 0, 2), due([]int{1}, 0, 1), due([]int{1}, 0, 0), due([]int{0}, 1, 3), due([]int{0, 3}, 1, 4), due([]int{3}, 2, 7), due([]int{3}, 2, 6), due(nil, 2, 5), due([]int{2}, 3, 6),
		x([][]int{{1}, nil, {2}, nil}, func(s *api.Shop) { s.Stock[0] = 0 }), x([][]int{{0, 1}, {0, 3}, {2, 3}, nil}, func(s *api.Shop) { s.Stock = []int{0, 1, 0, 0} }),
		x([][]int{{1}, {0, 3}, nil, nil}, func(s *api.Shop) { s.Carve = 99 }), x([][]int{{0, 1}, {0, 3}, {2, 3}, {2}}, func(s *api.Shop) { s.Stock[3] = 1 }),
		// a spare of 332 fits perhaps, and one that was tried surely
		x([][]int{{0, 1}, {0, 3}, {3}, nil}, func(s *api.Shop) { s.Workshop.Spares[3].Length.High = 332 }),
		x([][]int{{0, 1}, {0, 3}, {2, 3}, nil}, func(s *api.Shop) {
			s.Workshop.Spares[3].Length.High, s.Workshop.Table = 332, append(s.Workshop.Table, trial(3, 1, 0, 1))
		}),
		// without broken slots only the letter takes days
		lone(5, 5, []int{0}, one, broken(0), yes), lone(5, 6, []int{0}, one, broken(0), nil), lone(0, 0, []int{0}, one, broken(0), yes), lone(0, 1, []int{0}, one, broken(0), nil), lone(99, 99, []int{0}, one, broken(0), yes),
		lone(0, 99, []int{0}, one, piece(0, 0, letterA, 0), yes), lone(0, 99, []int{1}, one, piece(0, 0, letterA, 0, 1), yes), lone(0, 99, []int{0}, one, piece(0, 0, letterA, 0, 1), yes, delivery(0, 0, 1)),
		// the stock is there on the day 0
		lone(5, 5, []int{1}, one, broken(0, 1), yes), lone(5, 6, []int{1}, one, broken(0, 1), nil), lone(5, 6, []int{10}, one, broken(0, 0, 1), nil), lone(0, 0, []int{1}, one, broken(0, 0), yes),
		// a delivery on its day
		lone(5, 2, []int{0}, one, broken(0, 1), yes, delivery(3, 0, 1)), lone(5, 2, []int{0}, one, broken(0, 1), nil, delivery(4, 0, 1)), lone(5, 3, []int{0}, one, broken(0, 1), nil, delivery(3, 0, 1)), lone(5, 5, []int{0}, one, broken(0, 1), yes, delivery(0, 0, 1)), lone(5, 6, []int{0}, one, broken(0, 1), nil, delivery(0, 0, 1)),
		lone(99, 0, []int{0}, one, broken(0, 0), yes, delivery(99, 0, 10)), lone(98, 0, []int{0}, one, broken(0, 0), nil, delivery(99, 0, 10)), lone(5, 2, []int{0}, one, broken(0, 1), yes, delivery(4, 0, 1), delivery(3, 0, 1), delivery(9, 0, 9)),
		// each slot has a spare of its own
		lone(5, 0, []int{1}, one, broken(0, 0, 1), nil), lone(5, 0, []int{2}, one, broken(0, 0, 1), yes), lone(5, 0, []int{1}, one, broken(0, 0, 1), yes, delivery(5, 0, 1)), lone(5, 0, []int{1}, one, broken(0, 0, 1), nil, delivery(6, 0, 1)),
		lone(5, 0, []int{0}, one, broken(0, 0, 1), nil, delivery(5, 0, 1)), lone(5, 0, []int{0}, one, broken(0, 0, 1), yes, delivery(5, 0, 2)), lone(5, 0, []int{0}, one, broken(0, 0, 1), yes, delivery(5, 0, 1), delivery(5, 0, 1)),
		lone(5, 0, []int{10}, one, broken(0, 2), nil), lone(5, 0, []int{10}, one, broken(0, 0, 2), nil), lone(5, 0, nil, works(0, [][]int{nil}), broken(0, 0), nil), lone(5, 0, nil, works(0, [][]int{nil}), broken(0), yes),
		lone(5, 0, []int{1, 1}, both, broken(0, 0, 1), yes), lone(5, 0, []int{1, 1}, both, broken(0, 1, 2), yes), lone(5, 0, []int{1, 1}, both, broken(0, 0, 1, 2), nil), lone(5, 0, []int{2, 0}, both, broken(0, 0, 1), yes), lone(5, 0, []int{0, 2}, both, broken(0, 0, 1), nil),
		lone(5, 0, []int{1, 2}, both, broken(0, 0, 1, 2), yes), lone(5, 0, []int{1, 1}, both, broken(0, 0, 1, 2), yes, delivery(5, 0, 1)), lone(5, 0, []int{0, 1}, both, broken(0, 0, 1), yes, delivery(5, 0, 1)),
	}
}

func TestP8_3Can(t *testing.T) {
	for i, x := range offereds() {
		for wish, want := range x.want {
			if l, e := orders.Can(x.s, wish); !slices.Equal(l, want) || e != api.OK {
				t.Errorf("%d: Can of %d = %v, error %d; want %v", i, wish, l, e, want)
			}
		}
	}
}

// planned is a shop, a plan, and what it takes.
type planned struct {
	s    api.Shop
	plan []int
	want int
}

// whole is a shop of six pieces whose four slots are all broken, and of three spares that all fit them.
func whole(stock []int, deliveries ...api.Delivery) api.Shop {
	all := slices.Repeat([][]int{{0, 1, 2}}, 4)
	return shop(works(3, all), 0, stock, slices.Repeat([]api.Piece{broken(0, 0, 1, 2, 3)}, 6), slices.Repeat([]api.Wish{plain(9, 100000)}, 6), deliveries...)
}

// chained is a shop in which the last piece can be mended only if each of the
// others is mended with another spare than the first that fits it.
func chained(stock ...int) api.Shop {
	w := works(8, [][]int{{0, 1}, {1, 2}, {2, 3}, {3, 4}}, [][]int{{4, 5}, {5, 6}, {6, 7}, {0}})
	var pieces []api.Piece
	var wishes []api.Wish
	for i := range 4 {
		pieces = append(pieces, broken(i/2, i%2*2, i%2*2+1))
		wishes = append(wishes, plain(0, 1<<i))
	}
	return shop(w, 0, stock, pieces, wishes)
}

func planneds() []planned {
	pair := func(want int, dues [2]int, stock int, deliveries ...api.Delivery) planned {
		s := shop(works(1, [][]int{{0}, {0}}), 0, []int{stock}, []api.Piece{broken(0, 0), broken(0, 1)}, []api.Wish{plain(dues[0], 20), plain(dues[1], 3)}, deliveries...)
		return planned{s, []int{1, 0}, want}
	}
	x := func(want int, plan ...int) planned { return planned{shopX(), plan, want} }
	all := []int{0, 1, 2, 3, 4, 5}
	return []planned{
		x(1600, 1, 0, 2, none), x(1600, 1, 3, 2, none), x(noPlan, none, 0, 3, none), x(noPlan, 2, none, none, none), x(0, none, none, none, none), x(noPlan, none, none, none, 2), x(1200, 0, none, 2, none), x(noPlan, 0, 3, none, none), x(noPlan, 3, none, none, none),
		x(500, 1, none, none, none), x(500, 0, none, none, none), x(400, none, 0, none, none), x(400, none, 3, none, none), x(700, none, none, 3, none), x(noPlan, 1, 2, none, none), x(noPlan, none, 1, none, none), x(noPlan, 1, 0, 2, 3), x(noPlan, 1, 0, 3, 2),
		{shopX(func(s *api.Shop) { s.Stock = []int{2, 0, 0, 1} }), []int{1, 0, 3, 2}, 1900}, {shopX(func(s *api.Shop) { s.Stock = []int{1, 1, 0, 1} }), []int{1, 0, 3, 2}, 1900}, {shopX(func(s *api.Shop) { s.Carve = 4 }), []int{1, 0, 3, none}, noPlan},
		{api.Shop{}, nil, 0}, {shop(works(0), 99, nil, nil, []api.Wish{plain(0, 1)}), []int{none}, 0}, {shop(works(0, nil), 99, nil, []api.Piece{broken(0)}, []api.Wish{plain(0, 0)}), []int{0}, 0},
		// each piece has spares of its own, and each spare its day
		pair(23, [2]int{0, 0}, 2), pair(noPlan, [2]int{9, 9}, 1), pair(noPlan, [2]int{9, 9}, 0), pair(23, [2]int{9, 9}, 1, delivery(9, 0, 1)), pair(noPlan, [2]int{9, 9}, 1, delivery(10, 0, 1)), pair(23, [2]int{9, 9}, 0, delivery(9, 0, 2)), pair(noPlan, [2]int{9, 9}, 0, delivery(9, 0, 1)),
		// the spare that is there first is for the wish that is due first, which comes first, or last
		pair(23, [2]int{5, 0}, 1, delivery(5, 0, 1)), pair(23, [2]int{0, 5}, 1, delivery(5, 0, 1)), pair(noPlan, [2]int{4, 4}, 1, delivery(5, 0, 1)), pair(noPlan, [2]int{0, 5}, 0, delivery(5, 0, 2)), pair(23, [2]int{0, 5}, 0, delivery(5, 0, 1), delivery(0, 0, 1)), pair(23, [2]int{5, 0}, 0, delivery(5, 0, 1), delivery(0, 0, 1)), pair(noPlan, [2]int{3, 2}, 0, delivery(3, 0, 2), delivery(3, 0, 2)),
		// 24 repairs
		{whole([]int{8, 8, 8}), all, 600000}, {whole([]int{10, 10, 4}), all, 600000}, {whole([]int{10, 10, 3}), all, noPlan}, {whole([]int{10, 10, 3}), []int{0, 1, none, 3, 4, 5}, 500000}, {whole([]int{10, 3, 0}, delivery(9, 0, 10), delivery(3, 1, 1)), all, 600000}, {whole([]int{10, 3, 0}, delivery(9, 0, 10), delivery(10, 1, 1)), all, noPlan},
		{chained(1, 1, 1, 1, 1, 1, 1, 1), []int{0, 1, 2, 3}, 15}, {chained(1, 1, 1, 0, 1, 1, 1, 1), []int{0, 1, 2, 3}, noPlan}, {chained(1, 1, 1, 1, 1, 1, 1, 0), []int{0, 1, 2, 3}, noPlan}, {chained(1, 1, 1, 2, 1, 1, 1, 0), []int{0, 1, 2, 3}, 15}, {chained(2, 1, 1, 1, 1, 1, 1, 0), []int{0, 1, 2, 3}, 15}, {chained(0, 1, 1, 1, 1, 1, 1, 1), []int{0, 1, 2, none}, 7},
	}
}

func TestP8_4Takes(t *testing.T) {
	for i, x := range planneds() {
		n, e := orders.Takes(x.s, x.plan)
		if x.want == noPlan && (n != 0 || e != api.ErrNone) || x.want != noPlan && (n != x.want || e != api.OK) {
			t.Errorf("%d: Takes = %d, error %d; want %d", i, n, e, x.want)
		}
	}
}

// best is a shop, the greatest takings, these without each delivery, and what must be bought to fill all.
type best struct {
	s       api.Shop
	most    int
	without []int
	extra   int
}

func bests() []best {
	x := func(most int, without []int, extra int, change func(s *api.Shop)) best {
		return best{shopX(change), most, without, extra}
	}
	one := works(1, [][]int{{0}, {0}, nil})
	two := []api.Piece{broken(0, 0), broken(0, 1)}
	three := []api.Piece{broken(0, 0), broken(0, 1), broken(0, 0, 1)}
	return []best{
		{shopX(), 1600, []int{1600, 1200}, 2},
		x(1600, []int{1600, 1600}, 1, func(s *api.Shop) { s.Stock[0] = 2 }), x(1900, []int{1600, 1900}, 0, func(s *api.Shop) { s.Stock = []int{2, 0, 0, 1} }), x(0, []int{0, 0}, 0, func(s *api.Shop) { s.Wishes = nil }), x(0, []int{0, 0}, noPlan, func(s *api.Shop) { s.Pieces = nil }),
		x(500, nil, 4, func(s *api.Shop) { s.Deliveries, s.Stock[0] = nil, 0 }), x(1200, []int{1200, 900}, 1, func(s *api.Shop) { s.Wishes[2].Price, s.Wishes[3].Due = 100, 6 }),
		{api.Shop{}, 0, nil, 0}, {shop(works(0), 99, nil, nil, []api.Wish{plain(9, 7)}), 0, nil, noPlan}, {shop(one, 99, []int{0}, []api.Piece{broken(0)}, []api.Wish{plain(0, 0)}), 0, nil, 0}, {shop(one, 0, []int{0}, []api.Piece{broken(0)}, []api.Wish{plain(0, 100000)}), 100000, nil, 0},
		// a piece goes to the wish that pays more, wherever that stands
		{shop(one, 0, []int{0}, []api.Piece{broken(0)}, []api.Wish{plain(0, 5), plain(0, 6)}), 6, nil, noPlan}, {shop(one, 0, []int{0}, []api.Piece{broken(0)}, []api.Wish{plain(0, 6), plain(0, 5)}), 6, nil, noPlan}, {shop(one, 0, []int{0}, []api.Piece{broken(0)}, []api.Wish{plain(0, 6), plain(0, 9), plain(0, 8)}), 9, nil, noPlan},
		// and so does a spare; two wishes can pay more than one that needs the spares of both
		{shop(one, 0, []int{1}, two, []api.Wish{plain(0, 5), plain(0, 6)}), 6, nil, 1}, {shop(one, 0, []int{2}, three[1:], []api.Wish{plain(0, 5), plain(0, 6)}), 6, nil, 1}, {shop(one, 0, []int{3}, three[1:], []api.Wish{plain(0, 5), plain(0, 6)}), 11, nil, 0},
		{shop(one, 3, []int{2}, []api.Piece{piece(0, 1, 0, 0, 0, 1), broken(0, 0), broken(0, 1)}, []api.Wish{wish(span(1, 1), 0, 0, 9, 0), plain(0, 5), plain(0, 6)}), 11, nil, 2}, {shop(one, 3, []int{2}, []api.Piece{piece(0, 1, 0, 0, 0, 1), broken(0, 0), broken(0, 1)}, []api.Wish{wish(span(1, 1), 0, 0, 12, 0), plain(0, 5), plain(0, 6)}), 12, nil, 2},
		// what is late, or has a slot that nothing fits, cannot be bought for
		{shop(one, 3, []int{0}, two, []api.Wish{lettered(3, 7)}), 0, nil, 1}, {shop(one, 4, []int{0}, two, []api.Wish{lettered(3, 7)}), 0, nil, noPlan}, {shop(one, 4, []int{9}, two, []api.Wish{lettered(3, 7), plain(3, 1)}), 1, nil, noPlan}, {shop(one, 0, []int{9}, []api.Piece{broken(0, 2)}, []api.Wish{plain(9, 7)}), 0, nil, noPlan}, {shop(one, 0, []int{9}, []api.Piece{broken(0, 0, 2), broken(0, 0, 1)}, []api.Wish{plain(9, 7)}), 7, nil, 0},
		{shop(one, 0, []int{9}, []api.Piece{broken(0, 0, 2), broken(0, 0, 1)}, []api.Wish{plain(9, 7), plain(9, 7)}), 7, nil, noPlan}, {shop(works(0, [][]int{nil}), 0, nil, []api.Piece{broken(0, 0)}, []api.Wish{plain(9, 7)}), 0, nil, noPlan}, {shopX(func(s *api.Shop) { s.Workshop.Spares[3].Length.High, s.Deliveries = 332, nil }), 900, nil, noPlan},
		// a spare is bought at once, also for what is due before the delivery
		{shop(one, 0, []int{0}, two, []api.Wish{plain(0, 7)}, delivery(1, 0, 5)), 0, []int{0}, 1}, {shop(one, 0, []int{0}, two, []api.Wish{plain(0, 7), plain(1, 8)}, delivery(1, 0, 1)), 8, []int{0}, 1}, {shop(one, 0, []int{0}, two, []api.Wish{plain(1, 7), plain(1, 8)}, delivery(1, 0, 1)), 8, []int{0}, 1}, {shop(one, 0, []int{0}, two, []api.Wish{plain(1, 7), plain(1, 8)}, delivery(1, 0, 1), delivery(0, 0, 1)), 15, []int{8, 8}, 0},
		{shop(one, 0, []int{0}, two, []api.Wish{plain(1, 7), plain(1, 8)}, delivery(1, 0, 2), delivery(2, 0, 1), delivery(1, 0, 1)), 15, []int{8, 15, 15}, 0},
		// of the pieces that suit, those that are whole, or nearly so, need the fewest
		{shop(one, 0, []int{0}, three, []api.Wish{plain(0, 7)}), 0, nil, 1}, {shop(one, 0, []int{0}, three, []api.Wish{plain(0, 7), plain(0, 8)}), 0, nil, 2}, {shop(one, 0, []int{0}, three, []api.Wish{plain(0, 7), plain(0, 8), plain(0, 9)}), 0, nil, 4}, {shop(one, 0, []int{1}, append(three, broken(0)), []api.Wish{plain(0, 7), plain(0, 8), plain(0, 9)}), 17, nil, 1},
		// also above MaxJobs
		{whole([]int{0, 0, 0}), 0, nil, 24}, {whole([]int{10, 0, 0}), 200000, nil, 14}, {whole([]int{10, 10, 0}), 500000, nil, 4}, {whole([]int{10, 10, 3}), 500000, nil, 1}, {whole([]int{10, 10, 3}, delivery(9, 0, 1)), 600000, []int{500000}, 0}, {whole([]int{10, 10, 10}), 600000, nil, 0}, {whole([]int{10, 10, 3}, delivery(10, 0, 10)), 500000, []int{500000}, 1},
		{chained(1, 1, 1, 1, 1, 1, 1, 1), 15, nil, 0}, {chained(1, 1, 1, 0, 1, 1, 1, 1), 14, nil, 1}, {chained(0, 0, 0, 0, 0, 0, 0, 0), 0, nil, 8}, {chained(0, 2, 0, 2, 0, 2, 0, 2), 14, nil, 1},
	}
}

func TestP8_5Most(t *testing.T) {
	for i, x := range bests() {
		if n, e := orders.Most(x.s); n != x.most || e != api.OK {
			t.Errorf("%d: Most = %d, error %d; want %d", i, n, e, x.most)
		}
	}
}

func TestP8_6Plan(t *testing.T) {
	for i, x := range bests() {
		l, e := orders.Plan(x.s)
		if n, f := orders.Takes(x.s, l); n != x.most || e != api.OK || f != api.OK {
			t.Errorf("%d: Plan = %v, error %d, takes %d, error %d; want %d", i, l, e, n, f, x.most)
		}
	}
}

func TestP8_7Without(t *testing.T) {
	for i, x := range bests() {
		for d, want := range x.without {
			if n, e := orders.Without(x.s, d); n != want || e != api.OK {
				t.Errorf("%d: Without of %d = %d, error %d; want %d", i, d, n, e, want)
			}
		}
	}
}

func TestP8_8Extra(t *testing.T) {
	for i, x := range bests() {
		n, e := orders.Extra(x.s)
		if x.extra == noPlan && (n != 0 || e != api.ErrNone) || x.extra != noPlan && (n != x.extra || e != api.OK) {
			t.Errorf("%d: Extra = %d, error %d; want %d", i, n, e, x.extra)
		}
	}
}
