package canes_test

import (
	"slices"
	"testing"

	"ferrule/api"
	"ferrule/canes"
)

// box is a steamer; the soak and the bend of each boil are given in turn.
func box(room int, minutes ...int) api.Steamer {
	s := api.Steamer{Room: room}
	for pair := range slices.Chunk(minutes, 2) {
		s.Boils = append(s.Boils, api.Boil{Soak: pair[0], Bend: pair[1]})
	}
	return s
}

// boxS is the steamer S of the chapter's examples, with another room.
func boxS(room int) api.Steamer { return box(room, 10, 5, 20, 3, 5, 4) }

// timed is an order, and the minute in which it is done.
type timed struct {
	minute int
	order  []int
}

func at(minute int, order ...int) timed { return timed{minute, order} }

// steamed is a steamer, the minute in which its quickest order is done, and some orders.
type steamed struct {
	s        api.Steamer
	quickest int
	orders   []timed
}

func steameds() []steamed {
	equal := bends(4, 1, 4, 1, 4, 1, 4, 1)
	return []steamed{
		{boxS(2), 27, []timed{at(27, 0, 1, 2), at(33, 0, 2, 1), at(28, 2, 0, 1), at(32, 1, 0, 2), at(28, 2, 1, 0), at(35, 1, 2, 0)}},
		// one goes in when the one before it is taken out, not when that one has been bent
		{boxS(1), 38, []timed{at(39, 0, 1, 2), at(38, 0, 2, 1), at(40, 1, 2, 0), at(40, 2, 1, 0), at(38, 2, 0, 1), at(39, 1, 0, 2)}},
		{boxS(3), 23, []timed{at(27, 0, 1, 2), at(23, 2, 0, 1), at(32, 1, 0, 2)}}, {boxS(7), 23, []timed{at(23, 2, 0, 1)}},
		// without canes, without minutes
		{box(1), 0, []timed{at(0)}}, {box(7), 0, []timed{at(0)}}, {box(7, 0, 0), 0, []timed{at(0, 0)}}, {box(1, make([]int, 14)...), 0, []timed{at(0, 6, 5, 4, 3, 2, 1, 0)}},
		{box(3, 7, 0), 7, []timed{at(7, 0)}}, {box(3, 0, 7), 7, []timed{at(7, 0)}}, {box(1, 999, 999), 1998, []timed{at(1998, 0)}},
		// one waits in the box until the one before it has been bent, and the next one until then for its place
		{box(1, 5, 10, 5, 1), 16, []timed{at(16, 0, 1), at(20, 1, 0)}},
		{box(1, 5, 10, 5, 1, 5, 1), 21, []timed{at(21, 0, 1, 2), at(21, 1, 0, 2), at(25, 1, 2, 0)}},
		{box(2, 5, 10, 5, 1, 5, 1), 17, []timed{at(17, 0, 1, 2), at(17, 1, 0, 2), at(20, 1, 2, 0)}},
		// one that is ready is not taken out before the one before it in the order
		{box(2, 20, 1, 1, 1, 1, 1), 22, []timed{at(23, 0, 1, 2), at(22, 1, 2, 0), at(22, 1, 0, 2)}},
		{box(1, equal...), 17, []timed{at(17, 0, 1, 2, 3)}}, {box(2, equal...), 10, []timed{at(10, 0, 1, 2, 3), at(10, 3, 1, 2, 0)}},
		{box(3, equal...), 9, []timed{at(9, 0, 1, 2, 3)}}, {box(4, equal...), 8, []timed{at(8, 0, 1, 2, 3)}}, {box(5, equal...), 8, []timed{at(8, 2, 0, 1, 3)}},
		// the longest one
		{box(1, slices.Repeat(bends(999), 14)...), 8 * 999, []timed{at(8*999, 0, 1, 2, 3, 4, 5, 6)}},
	}
}

func TestP6_9Done(t *testing.T) {
	for i, x := range steameds() {
		for _, y := range x.orders {
			if n, e := canes.Done(x.s, y.order); n != y.minute || e != api.OK {
				t.Errorf("%d: Done of %v = %d, error %d; want %d", i, y.order, n, e, y.minute)
			}
		}
	}
}

func TestP6_10Quickest(t *testing.T) {
	for i, x := range steameds() {
		if n, e := canes.Quickest(x.s); n != x.quickest || e != api.OK {
			t.Errorf("%d: Quickest = %d, error %d; want %d", i, n, e, x.quickest)
		}
	}
}

func TestP6_11Order(t *testing.T) {
	for i, x := range steameds() {
		l, e := canes.Order(x.s)
		n, f := canes.Done(x.s, l)
		if e != api.OK || n != x.quickest || f != api.OK {
			t.Errorf("%d: Order = %v, error %d, done at %d, error %d; want %d", i, l, e, n, f, x.quickest)
		}
	}
	if l, e := canes.Order(boxS(2)); !slices.Equal(l, bends(0, 1, 2)) || e != api.OK {
		t.Errorf("Order = %v, error %d", l, e)
	}
}
