package stands_test

import (
	"slices"
	"testing"

	"ferrule/api"
	"ferrule/hire"
	"ferrule/stands"
)

// drawn are stands of all sizes, with a truth.
func drawn(seed uint64, many int) []api.Stand {
	x := newRandom(seed)
	list := []api.Stand{standS(), standT(), standU(), standV(), laden()}
	for guests := range 6 {
		list = append(list, stand(guests))
	}
	for range many {
		for _, name := range []string{"two guests", "three guests", "four guests", "five guests", "six guests", "seven guests", "many words", "none wrong", "any words"} {
			s := x.stand(sizes()[name])
			if n, e := stands.Many(s); n > 0 && e == api.OK {
				list = append(list, s)
			}
		}
	}
	return list
}

// takings are some takings of all numbers of guests.
func takings(seed uint64, many int) [][]int {
	x := newRandom(seed)
	var list [][]int
	for guests := range 8 {
		list = append(list, own(guests))
		for range many {
			list = append(list, x.Perm(guests))
		}
	}
	return list
}

// manyOf, canOf, questionsOf and swapsOf are answers to what is valid and has a truth.
func manyOf(t *testing.T, s api.Stand) int {
	t.Helper()
	n, e := stands.Many(s)
	if e != api.OK {
		t.Errorf("%+v: Many: error %d", s, e)
	}
	return n
}

func canOf(t *testing.T, s api.Stand, guest int) []int {
	t.Helper()
	l, e := stands.Can(s, guest)
	if e != api.OK {
		t.Errorf("%+v: Can of %d: error %d", s, guest, e)
	}
	return l
}

func questionsOf(t *testing.T, s api.Stand) int {
	t.Helper()
	n, e := stands.Questions(s)
	if e != api.OK {
		t.Errorf("%+v: Questions: error %d", s, e)
	}
	return n
}

func swapsOf(t *testing.T, taking []int) int {
	t.Helper()
	n, e := stands.Swaps(taking)
	if e != api.OK {
		t.Errorf("Swaps of %v: error %d", taking, e)
	}
	return n
}

func TestP10_11EachTruth(t *testing.T) {
	for _, s := range drawn(11, 40) {
		known, e := stands.Known(s)
		if e != api.OK || len(known) != s.Guests {
			t.Errorf("%+v: Known = %v, error %d", s, known, e)
			continue
		}
		truths := newModel(s).truths
		for guest, umbrella := range known {
			can := canOf(t, s, guest)
			for _, taking := range truths {
				if !slices.Contains(can, taking[guest]) || umbrella != -1 && umbrella != taking[guest] {
					t.Errorf("%+v: Can of %d = %v, Known = %v, but it can be %v", s, guest, can, known, taking)
				}
			}
			for _, u := range can {
				if !slices.ContainsFunc(truths, func(taking []int) bool { return taking[guest] == u }) {
					t.Errorf("%+v: Can of %d = %v, but it never took %d", s, guest, can, u)
				}
			}
			if (umbrella == -1) != (len(can) > 1) {
				t.Errorf("%+v: Can of %d = %v, Known = %v", s, guest, can, known)
			}
		}
	}
}

func TestP10_12OneMoreWord(t *testing.T) {
	x := newRandom(12)
	met := map[string]int{}
	for _, s := range drawn(12, 40) {
		if s.Guests == 0 || len(s.Words) == api.MaxWords {
			continue
		}
		more := wrong(s.Wrong, s, x.word(s.Guests))
		was, is := manyOf(t, s), manyOf(t, more)
		if is > was {
			t.Errorf("%+v: %d truths; %+v: %d", s, was, more, is)
		}
		count(met, map[string]bool{"no truth": is == 0, "fewer": is > 0 && is < was, "as many": is == was})
		if is == 0 {
			continue
		}
		for guest := range s.Guests {
			before, after := canOf(t, s, guest), canOf(t, more, guest)
			if slices.ContainsFunc(after, func(u int) bool { return !slices.Contains(before, u) }) {
				t.Errorf("%+v: Can of %d = %v; %+v: %v", s, guest, before, more, after)
			}
			count(met, map[string]bool{"fewer umbrellas": len(after) < len(before)})
		}
	}
	wantMet(t, met, 20, "no truth", "fewer", "as many", "fewer umbrellas")
}

// answered is a stand after the right answer of a guest, said so often that it cannot be wrong; not ok if these are too many words.
func answered(s api.Stand, guest, umbrella int) (api.Stand, bool) {
	after := wrong(s.Wrong, s, slices.Repeat([]api.Word{took(guest, umbrella)}, s.Wrong+1)...)
	return after, len(after.Words) <= api.MaxWords
}

func TestP10_12Answer(t *testing.T) {
	met := map[string]int{}
	for _, s := range drawn(13, 40) {
		n := questionsOf(t, s)
		guest, e := stands.Ask(s)
		if e != api.OK || (guest == -1) != (n == 0) {
			t.Errorf("%+v: Questions = %d; Ask = %d, error %d", s, n, guest, e)
		}
		if n == 0 {
			continue
		}
		most := 0
		for _, umbrella := range canOf(t, s, guest) {
			after, ok := answered(s, guest, umbrella)
			if !ok {
				continue
			}
			left := questionsOf(t, after)
			if left > n-1 {
				t.Errorf("%+v: Questions = %d; after the guest %d said %d: %d", s, n, guest, umbrella, left)
			}
			most = max(most, left)
			count(met, map[string]bool{"one less": left == n-1 && n > 1, "none left": left == 0, "still less": left < n-1})
		}
	}
	wantMet(t, met, 20, "one less", "none left", "still less")
}

func TestP10_13EnoughQuestions(t *testing.T) {
	met := map[string]int{}
	list := drawn(14, 80)
	for guests := range 8 {
		list = append(list, stand(guests))
	}
	for _, s := range list {
		n, many := questionsOf(t, s), manyOf(t, s)
		if n > max(0, s.Guests-1) || n >= many || (n == 0) != (many == 1) {
			t.Errorf("%+v: Questions = %d, Many = %d", s, n, many)
		}
		count(met, map[string]bool{"none": n == 0, "as many as guests less 1": n > 0 && n == s.Guests-1, "as many as truths less 1": n > 0 && n == many-1, "fewer": n > 0 && n < min(s.Guests, many)-1})
	}
	wantMet(t, met, 20, "none", "as many as guests less 1", "as many as truths less 1", "fewer")
}

// backOf is the taking back: who has taken the umbrella of each guest.
func backOf(taking []int) []int {
	back := make([]int, len(taking))
	for guest, umbrella := range taking {
		back[umbrella] = guest
	}
	return back
}

func TestP10_14Exchanges(t *testing.T) {
	met := map[string]int{}
	for _, taking := range takings(14, 60) {
		n := swapsOf(t, taking)
		if (n == 0) != slices.Equal(taking, own(len(taking))) || n > max(0, len(taking)-1) {
			t.Errorf("Swaps of %v = %d", taking, n)
		}
		if back := swapsOf(t, backOf(taking)); back != n {
			t.Errorf("Swaps of %v = %d; back %d", taking, n, back)
		}
		for a := range taking {
			for b := range a {
				after, _ := exchanged(taking, [][]int{{b, a}})
				is := swapsOf(t, after)
				if is != n-1 && is != n+1 {
					t.Errorf("Swaps of %v = %d; of %v = %d", taking, n, after, is)
				}
				count(met, map[string]bool{"one less": is < n, "one more": is > n})
			}
		}
	}
	wantMet(t, met, 200, "one less", "one more")
}

// No fewer exchanges put all right: those of all takings are counted one after the other.
func TestP10_14NoFewer(t *testing.T) {
	for guests := range 8 {
		for key, want := range fewest(guests) {
			if n := swapsOf(t, takingOf(key)); n != want {
				t.Errorf("Swaps of %v = %d; want %d", takingOf(key), n, want)
			}
		}
	}
}

// renumbered is a stand in which each guest, and its umbrella, has another number.
func renumbered(s api.Stand, numbers []int) api.Stand {
	other := copied(s)
	for i, w := range s.Words {
		other.Words[i].Guest = numbers[w.Guest]
		if w.Kind >= api.Swapped {
			other.Words[i].Other = numbers[w.Other]
		}
		for k, umbrella := range w.Among {
			other.Words[i].Among[k] = numbers[umbrella]
		}
		slices.Sort(other.Words[i].Among)
	}
	return other
}

func TestP10_15OtherNumbers(t *testing.T) {
	x := newRandom(15)
	for _, s := range drawn(15, 60) {
		numbers := x.Perm(s.Guests)
		other := renumbered(s, numbers)
		if manyOf(t, s) != manyOf(t, other) || questionsOf(t, s) != questionsOf(t, other) {
			t.Errorf("%+v: Many = %d, Questions = %d; %+v: %d, %d", s, manyOf(t, s), questionsOf(t, s), other, manyOf(t, other), questionsOf(t, other))
		}
	}
	for _, taking := range takings(16, 60) {
		numbers, other := x.Perm(len(taking)), make([]int, len(taking))
		for guest, umbrella := range taking {
			other[numbers[guest]] = numbers[umbrella]
		}
		if swapsOf(t, taking) != swapsOf(t, other) {
			t.Errorf("Swaps of %v = %d; of %v = %d", taking, swapsOf(t, taking), other, swapsOf(t, other))
		}
	}
}

func TestP10_16Liars(t *testing.T) {
	x := newRandom(16)
	met := map[string]int{}
	for _, s := range drawn(17, 50) {
		liars, e := stands.Liars(s)
		if e != api.OK {
			t.Errorf("%+v: error %d", s, e)
		}
		x.Shuffle(len(liars), func(i, k int) { liars[i], liars[k] = liars[k], liars[i] })
		for many := range len(liars) + 1 { // some of them, and all
			fewer := api.Stand{Guests: s.Guests, Wrong: s.Wrong - many}
			for i, w := range s.Words {
				if !slices.Contains(liars[:many], i) {
					fewer.Words = append(fewer.Words, w)
				}
			}
			was, is := newModel(s).truths, newModel(fewer).truths
			if manyOf(t, s) != manyOf(t, fewer) || len(was) != len(is) {
				t.Errorf("%+v: Many = %d; %+v: %d", s, manyOf(t, s), fewer, manyOf(t, fewer))
			}
			count(met, map[string]bool{"none": many == 0, "all": many > 0 && many == len(liars), "some": many > 0 && many < len(liars)})
		}
	}
	wantMet(t, met, 20, "none", "all", "some")
}

func TestP10_17Back(t *testing.T) {
	met := map[string]int{}
	for _, taking := range takings(17, 200) {
		first, second, e := stands.Rounds(taking)
		after, ok := exchanged(backOf(taking), slices.Concat(second, first))
		if e != api.OK || !ok || !slices.Equal(after, own(len(taking))) {
			t.Errorf("Rounds of %v = %v, %v, error %d; back: %v", taking, first, second, e, after)
		}
		count(met, map[string]bool{"two rounds": len(first) > 0 && len(second) > 0, "another one": !slices.Equal(taking, backOf(taking))})
	}
	wantMet(t, met, 200, "two rounds", "another one")
}

// brought are slips of guests who hired their own umbrellas and bring back those of a taking.
func brought(taking []int, out, back []api.Slip) []api.Slip {
	var slips []api.Slip
	for guest, umbrella := range taking {
		hired, returned := out[guest], back[guest]
		hired.Id, hired.Kind, hired.Umbrella, hired.Guest = guest, api.Lent, guest, 10+guest
		returned.Id, returned.Kind, returned.Umbrella = 50+guest, api.Returned, umbrella
		slips = append(slips, hired, returned)
	}
	return slips
}

// owedByAll is what all guests owe together: the sums of the least and of the greatest that each of them can owe.
func owedByAll(t *testing.T, c api.Counter) api.Span {
	t.Helper()
	sum := api.Span{}
	for guest := range api.MaxGuest + 1 {
		s, e := hire.Owes(c, guest)
		if e != api.OK {
			t.Fatalf("%+v: error %d", c, e)
		}
		sum.Low += s.Low
		sum.High += s.High
	}
	return sum
}

// wantOwed wants that all owe as much with the umbrellas of a taking as with their own, also after each exchange.
func wantOwed(t *testing.T, c api.Counter, taking []int, out, back []api.Slip) {
	t.Helper()
	c.Slips = brought(own(len(taking)), out, back)
	want := owedByAll(t, c)
	exchanges, e := stands.Exchange(taking)
	if e != api.OK {
		t.Fatalf("%v: error %d", taking, e)
	}
	for many := range len(exchanges) + 1 {
		after, _ := exchanged(taking, exchanges[:many])
		c.Slips = brought(after, out, back)
		if is := owedByAll(t, c); is != want {
			t.Fatalf("%+v: of %v all owe %v; with their own %v", c, after, is, want)
		}
	}
}

// slips draws for each guest a clerk and what its watch showed.
func (x random) slips(guests, clerks, low, high int) []api.Slip {
	var list []api.Slip
	for range guests {
		list = append(list, api.Slip{Clerk: x.IntN(clerks), At: x.from(low, high)})
	}
	return list
}

// Whoever brings them back: what is owed is the same if all went out, or all came back, at
// once, or if each minute costs as much as any other one. (Otherwise it matters for
// how long each umbrella was out, as it pays for units that have begun.)
func TestP0_5TheUmbrellasOfOthers(t *testing.T) {
	x := newRandom(5)
	met := map[string]int{}
	for i := range 120 {
		taking := x.Perm(x.from(2, 6))
		n := len(taking)
		c := api.Counter{
			Clerks: []api.Span{span(-x.IntN(4), x.IntN(4)), span(-x.IntN(4), 3)}, Closed: []api.Span{span(40, 40+x.IntN(20)), span(105, 105+x.IntN(20))},
			Tariff: api.Tariff{Free: x.IntN(20), Unit: x.from(1, 30), Price: x.from(1, 9), Most: x.IntN(30), Lost: x.from(20, 200), Value: x.IntN(90)},
		}
		out, back := x.slips(n, 2, 10, 80), x.slips(n, 2, 100, 180)
		switch i % 3 {
		case 0:
			out = slices.Repeat(out[:1], n)
		case 1:
			back = slices.Repeat(back[:1], n)
		case 2:
			c.Clerks = []api.Span{span(-2, -2), span(3, 3)}
			c.Tariff = api.Tariff{Unit: 1, Price: x.from(1, 9), Most: api.MaxCents, Lost: api.MaxAt}
		}
		wantOwed(t, c, taking, out, back)
		c.Slips = brought(taking, out, back)
		owed := owedByAll(t, c)
		count(met, map[string]bool{"something": owed.Low > 0, "perhaps more": owed.Low < owed.High, "two exchanges": swapsOf(t, taking) > 1})
	}
	wantMet(t, met, 20, "something", "perhaps more", "two exchanges")
}
