package stands_test

import (
	"slices"
	"testing"

	"ferrule/api"
	"ferrule/stands"
)

// stand has as many guests, and words none of which is wrong.
func stand(guests int, words ...api.Word) api.Stand { return api.Stand{Guests: guests, Words: words} }

// standS, standT, standU and standV are S, T, U and V of the chapter's examples.
func standS() api.Stand { return stand(4, took(0, 1, 2), notTook(3, 3)) }

func standT() api.Stand { return stand(4, took(0, 1, 2), notTook(3, 3), kept(1, 2)) }

func standU() api.Stand { return wrong(1, standT(), swapped(0, 3)) }

func standV() api.Stand { return wrong(1, standT(), notTook(0, 0, 1, 2, 3)) }

// wrong is a stand with more words, so many of which may be wrong.
func wrong(many int, s api.Stand, more ...api.Word) api.Stand {
	return api.Stand{Guests: s.Guests, Words: slices.Concat(s.Words, more), Wrong: many}
}

func TestExamples(t *testing.T) {
	wantMany(t, standS(), 8)
	wantMany(t, standT(), 2)
	wantMany(t, standU(), 3)
	wantMany(t, standV(), 2)
	wantCan(t, standS(), 0, 1, 2)
	wantCan(t, standS(), 1, 0, 1, 2, 3)
	wantCan(t, standS(), 3, 0, 1, 2)
	for guest, umbrellas := range [][]int{{1, 2}, {1, 3}, {2, 3}, {0}} {
		wantCan(t, standT(), guest, umbrellas...)
	}
	wantKnown(t, standS(), -1, -1, -1, -1)
	wantKnown(t, standT(), -1, -1, -1, 0)
	wantQuestions(t, standS(), 3)
	wantQuestions(t, standT(), 1, 0, 1, 2)
	wantLiars(t, standU())
	wantLiars(t, standV(), 3)
	for _, x := range []struct {
		taking []int
		swaps  int
	}{{[]int{1, 2, 0, 3}, 2}, {[]int{1, 0, 3, 2}, 2}, {[]int{0, 1}, 0}} {
		wantRight(t, x.taking, x.swaps)
	}
}

func wantMany(t *testing.T, s api.Stand, want int) {
	t.Helper()
	if n, e := stands.Many(s); n != want || e != api.OK {
		t.Errorf("%+v: Many = %d, error %d; want %d", s, n, e, want)
	}
}

func wantCan(t *testing.T, s api.Stand, guest int, want ...int) {
	t.Helper()
	if l, e := stands.Can(s, guest); !slices.Equal(l, want) || e != api.OK {
		t.Errorf("%+v: Can of %d = %v, error %d; want %v", s, guest, l, e, want)
	}
}

func wantKnown(t *testing.T, s api.Stand, want ...int) {
	t.Helper()
	if l, e := stands.Known(s); !slices.Equal(l, want) || e != api.OK {
		t.Errorf("%+v: Known = %v, error %d; want %v", s, l, e, want)
	}
}

func wantLiars(t *testing.T, s api.Stand, want ...int) {
	t.Helper()
	if l, e := stands.Liars(s); !slices.Equal(l, want) || e != api.OK {
		t.Errorf("%+v: Liars = %v, error %d; want %v", s, l, e, want)
	}
}

// wantQuestions wants as many questions, and that Ask is one of some guests, or -1 without any.
func wantQuestions(t *testing.T, s api.Stand, want int, guests ...int) {
	t.Helper()
	n, e := stands.Questions(s)
	guest, f := stands.Ask(s)
	if n != want || e != api.OK || f != api.OK || (guest == -1) != (want == 0) || len(guests) > 0 && !slices.Contains(guests, guest) {
		t.Errorf("%+v: Questions = %d, error %d; Ask = %d, error %d; want %d, %v", s, n, e, guest, f, want, guests)
	}
}

// wantRight wants as many exchanges, and that these and the rounds put all right.
func wantRight(t *testing.T, taking []int, swaps int) {
	t.Helper()
	if n, e := stands.Swaps(taking); n != swaps || e != api.OK {
		t.Errorf("Swaps of %v = %d, error %d; want %d", taking, n, e, swaps)
	}
	l, e := stands.Exchange(taking)
	if is, ok := exchanged(taking, l); !ok || len(l) != swaps || e != api.OK || !slices.Equal(is, own(len(taking))) {
		t.Errorf("Exchange of %v = %v, error %d; want %d", taking, l, e, swaps)
	}
	first, second, e := stands.Rounds(taking)
	is, ok := exchanged(taking, slices.Concat(first, second))
	if !ok || !isRound(first) || !isRound(second) || e != api.OK || !slices.Equal(is, own(len(taking))) {
		t.Errorf("Rounds of %v = %v, %v, error %d: %v", taking, first, second, e, is)
	}
}

// exchanged is a taking after exchanges; not ok if some are none.
func exchanged(taking []int, exchanges [][]int) ([]int, bool) {
	after := slices.Clone(taking)
	for _, x := range exchanges {
		if len(x) != 2 || x[0] < 0 || x[0] >= x[1] || x[1] >= len(taking) {
			return nil, false
		}
		after[x[0]], after[x[1]] = after[x[1]], after[x[0]]
	}
	return after, true
}

// isRound tells whether no guest is twice in exchanges.
func isRound(exchanges [][]int) bool {
	guests := slices.Concat(exchanges...)
	slices.Sort(guests)
	return len(slices.Compact(slices.Clone(guests))) == len(guests)
}

func TestP10_2Many(t *testing.T) {
	for guests, many := range []int{1, 1, 2, 6, 24, 120, 720, 5040} {
		s := stand(guests)
		wantMany(t, s, many)
		if guests == 0 {
			continue
		}
		all := own(guests)
		wantMany(t, wrong(0, s, took(0, all...)), many)
		wantMany(t, wrong(0, s, notTook(guests-1, 0)), many-many/guests)
		wantMany(t, wrong(0, s, notTook(guests-1, all...)), 0)
		wantMany(t, wrong(1, s, notTook(guests-1, all...)), many)
		wantMany(t, wrong(0, s, took(guests-1, 0)), many/guests)
	}
	// of two guests one or both kept theirs, or they swapped
	wantMany(t, stand(2, kept(0, 1)), 1)
	wantMany(t, stand(2, swapped(1, 0)), 1)
	wantMany(t, stand(2, swapped(1, 0), kept(1, 0)), 0)
	wantMany(t, wrong(1, stand(2), swapped(1, 0), kept(1, 0)), 2)
	wantMany(t, stand(3, kept(0, 1)), 3)
	wantMany(t, stand(3, kept(2, 0)), 3)
	wantMany(t, stand(3, swapped(0, 2)), 1)
	wantMany(t, stand(4, swapped(0, 2)), 2)
	wantMany(t, stand(4, kept(1, 3)), 10)
	wantMany(t, stand(4, kept(1, 3), swapped(1, 3)), 0)
	wantMany(t, stand(4, kept(1, 3), swapped(1, 2)), 1)
}

// Of words that contradict each other as many may be wrong as the stand says, equal ones each for itself.
func TestP10_2Wrong(t *testing.T) {
	words := []api.Word{took(0, 0), took(0, 0), took(0, 0), took(0, 1), took(0, 1), notTook(0, 0, 1, 2), took(0, 2)}
	for wrong, many := range []int{0, 0, 0, 0, 2, 4, 6, 6} { // 0: four are wrong, 1: five, 2: six
		wantMany(t, api.Stand{Guests: 3, Words: words, Wrong: wrong}, many)
	}
	twenty := slices.Repeat([]api.Word{took(0, 1)}, 20)
	for wrong := range 8 {
		wantMany(t, api.Stand{Guests: 2, Words: twenty, Wrong: wrong}, 1)
		wantMany(t, api.Stand{Guests: 2, Words: twenty[:wrong], Wrong: wrong}, 2)
	}
}

func TestP10_3Can(t *testing.T) {
	for guests := range 8 {
		for guest := range guests {
			wantCan(t, stand(guests), guest, own(guests)...)
			wantCan(t, stand(guests, took(guest, guests-1)), guest, guests-1)
		}
	}
	// what others took a guest cannot have
	s := stand(7, took(0, 3), swapped(1, 5), took(2, 0, 2, 4), took(3, 0, 2, 4), took(4, 0, 2, 4))
	for guest, umbrellas := range [][]int{{3}, {5}, {0, 2, 4}, {0, 2, 4}, {0, 2, 4}, {1}, {6}} {
		wantCan(t, s, guest, umbrellas...)
	}
	wantCan(t, standU(), 0, 1, 2, 3)
	wantCan(t, standV(), 0, 1, 2)
	// one who kept it, or the other
	wantCan(t, stand(3, kept(0, 1), notTook(0, 0)), 1, 1)
	wantCan(t, stand(3, kept(0, 1), notTook(0, 0)), 0, 2)
	wantCan(t, stand(3, kept(0, 1)), 0, 0, 2)
	wantCan(t, stand(3, kept(0, 1)), 2, 0, 1, 2)
}

func TestP10_4Known(t *testing.T) {
	for guests := range 8 {
		want := slices.Repeat([]int{-1}, guests)
		if guests == 1 {
			want = []int{0}
		}
		wantKnown(t, stand(guests), want...)
	}
	wantKnown(t, stand(4, swapped(0, 1)), 1, 0, -1, -1)
	wantKnown(t, stand(4, swapped(0, 1), kept(2, 3)), 1, 0, 2, 3)
	wantKnown(t, stand(3, took(1, 1)), -1, 1, -1)
	wantKnown(t, stand(7, took(0, 3), swapped(1, 5), took(2, 0, 2, 4), took(3, 0, 2, 4), took(4, 0, 2, 4)), 3, 5, -1, -1, -1, 1, 6)
	wantKnown(t, wrong(1, stand(2), took(0, 0), took(0, 0), took(0, 1)), 0, 1)
	wantKnown(t, standU(), -1, -1, -1, 0)
}

func TestP10_5Liars(t *testing.T) {
	wantLiars(t, standS())
	wantLiars(t, standT())
	wantLiars(t, wrong(1, stand(2), took(0, 0), took(0, 0), took(0, 1)), 2)
	wantLiars(t, wrong(1, stand(2), took(0, 1), took(0, 0), took(1, 1)), 0)
	wantLiars(t, wrong(1, stand(2), took(0, 1), took(0, 0))) // one of them, but neither surely
	// both of two words that are equal, and such as no taking agrees with
	wantLiars(t, wrong(2, stand(3), notTook(1, 0, 1, 2), took(1, 0), notTook(1, 0, 1, 2)), 0, 2)
	wantLiars(t, wrong(3, stand(3), notTook(1, 0, 1, 2), took(1, 0), notTook(1, 0, 1, 2)), 0, 2)
	wantLiars(t, wrong(2, stand(3), swapped(0, 1), kept(0, 1), kept(0, 1), swapped(0, 1), took(2, 2), took(2, 2)))
	wantLiars(t, wrong(2, stand(3), swapped(0, 1), swapped(0, 2), swapped(1, 2)))
	wantLiars(t, wrong(2, stand(3), swapped(0, 1), swapped(0, 2), swapped(1, 2), took(0, 0)), 0, 1)
	// words that are so in some truths only are none
	wantLiars(t, wrong(7, stand(4), swapped(0, 1), swapped(0, 2), swapped(0, 3), kept(0, 1)))
}

func TestP10_6Questions(t *testing.T) {
	for guests := range 8 {
		wantQuestions(t, stand(guests), max(0, guests-1))
	}
	wantQuestions(t, stand(4, swapped(0, 1)), 1, 2, 3)
	wantQuestions(t, stand(7, took(0, 3), swapped(1, 5), took(2, 0, 2, 4), took(3, 0, 2, 4), took(4, 0, 2, 4)), 2, 2, 3, 4)
	wantQuestions(t, stand(3, notTook(0, 0), notTook(1, 1), notTook(2, 2)), 1)
	wantQuestions(t, stand(4, notTook(0, 0), notTook(1, 1), notTook(2, 2), notTook(3, 3)), 2)
	// two pairs of guests, each with two umbrellas
	wantQuestions(t, stand(4, took(0, 0, 1), took(1, 0, 1)), 2)
	wantQuestions(t, stand(6, took(0, 0, 1), took(1, 0, 1), took(2, 2, 3), took(3, 2, 3)), 3)
	wantQuestions(t, standU(), 1)
	wantQuestions(t, standV(), 1)
}

// What is asked next depends on what was answered.
func TestP10_6NextQuestions(t *testing.T) {
	s := stand(5, kept(0, 3), kept(2, 4), notTook(1, 0, 3, 4))
	wantMany(t, s, 8)
	wantQuestions(t, s, 2, 2)
	// if the guest 2 kept its own, 0 3 4 or 0 4 3 or 4 3 0 are left to the guests 0, 3 and 4
	wantQuestions(t, wrong(0, s, took(2, 2)), 1, 4)
	// if it took 3, 0 and 4 kept theirs
	wantQuestions(t, wrong(0, s, took(2, 3)), 1, 1, 3)
}

func TestP10_7Ask(t *testing.T) {
	// the guests 1 to 3 have three umbrellas, and 0 another one: nothing is learnt from it
	wantQuestions(t, stand(4, took(0, 3)), 2, 1, 2, 3)
	// all but the guests 4 and 6 are known
	wantQuestions(t, stand(7, took(0, 5), took(1, 1), took(2, 0), took(3, 6), took(5, 2)), 1, 4, 6)
	// the guest 0 has 0 in four truths out of five, and no question alone tells these from each other
	wantQuestions(t, stand(4, kept(3, 0), notTook(1, 0, 2)), 2, 1, 2, 3)
	for _, s := range []api.Stand{stand(0), stand(1), stand(2, swapped(0, 1)), stand(3, took(0, 1), took(1, 2))} {
		wantQuestions(t, s, 0, -1)
	}
}

func TestP10_8Swaps(t *testing.T) {
	for _, x := range []struct {
		taking []int
		swaps  int
	}{
		{nil, 0}, {[]int{0}, 0}, {[]int{0, 1}, 0}, {[]int{1, 0}, 1}, {[]int{2, 1, 0}, 1}, {[]int{2, 0, 1}, 2}, {[]int{1, 2, 0}, 2}, {own(7), 0},
		{[]int{1, 2, 3, 4, 5, 6, 0}, 6}, {[]int{6, 0, 1, 2, 3, 4, 5}, 6}, {[]int{6, 5, 4, 3, 2, 1, 0}, 3}, {[]int{1, 0, 3, 2, 5, 4, 6}, 3}, {[]int{1, 2, 0, 4, 5, 3, 6}, 4}, {[]int{3, 4, 5, 0, 1, 2}, 3}, {[]int{0, 6, 2, 3, 4, 5, 1}, 1},
	} {
		wantRight(t, x.taking, x.swaps)
	}
}

// All takings of all guests.
func TestP10_9Exchange(t *testing.T) {
	for guests := range 8 {
		for key, swaps := range fewest(guests) {
			wantRight(t, takingOf(key), swaps)
		}
	}
}

// All takings again: no guest is twice in a round, and the second one goes on where the first one ends.
func TestP10_10Rounds(t *testing.T) {
	for guests := range 8 {
		for key := range fewest(guests) {
			taking := takingOf(key)
			first, second, e := stands.Rounds(taking)
			between, ok := exchanged(taking, first)
			after, also := exchanged(between, second)
			if e != api.OK || !ok || !also || !isRound(first) || !isRound(second) || !slices.Equal(after, own(guests)) {
				t.Errorf("Rounds of %v = %v, %v, error %d: %v, then %v", taking, first, second, e, between, after)
			}
		}
	}
}
