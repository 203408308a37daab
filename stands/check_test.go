package stands_test

import (
	"math"
	"reflect"
	"slices"
	"strconv"
	"testing"

	"ferrule/api"
	"ferrule/stands"
)

func took(guest int, among ...int) api.Word {
	return api.Word{Kind: api.Took, Guest: guest, Among: among}
}

func notTook(guest int, among ...int) api.Word {
	return api.Word{Kind: api.NotTook, Guest: guest, Among: among}
}

func swapped(guest, other int) api.Word {
	return api.Word{Kind: api.Swapped, Guest: guest, Other: other}
}

func kept(guest, other int) api.Word {
	return api.Word{Kind: api.Kept, Guest: guest, Other: other}
}

// laden is a valid stand with a truth, of which any one number can be changed.
func laden() api.Stand {
	return api.Stand{Guests: 5, Words: []api.Word{took(0, 1, 4), notTook(4, 1, 3), swapped(2, 3), kept(1, 3), took(3, 2)}, Wrong: 2}
}

// number is one number of a stand, set and checked by itself.
type number struct {
	name      string
	set       func(s *api.Stand, n int)
	low, high int // the least and the greatest one with which the stand laden has no error
}

// numbersOfStand are those for which a stand is not valid.
func numbersOfStand() []number {
	return []number{
		{"Guests", func(s *api.Stand, n int) { s.Guests = n }, 0, 7},
		{"Wrong", func(s *api.Stand, n int) { s.Wrong = n }, 0, 7},
	}
}

// numbersOfWords are those for which the words are not valid.
func numbersOfWords() []number {
	var all []number
	for i, w := range laden().Words {
		of := " of the word " + strconv.Itoa(i)
		kinds, others := []int{api.Took, api.NotTook}, []int{0, 0}
		if w.Kind >= api.Swapped {
			kinds, others = []int{api.Swapped, api.Kept}, []int{0, 4}
		}
		all = append(all,
			number{"Kind" + of, func(s *api.Stand, n int) { s.Words[i].Kind = n }, kinds[0], kinds[1]},
			number{"Guest" + of, func(s *api.Stand, n int) { s.Words[i].Guest = n }, 0, 4},
			number{"Other" + of, func(s *api.Stand, n int) { s.Words[i].Other = n }, others[0], others[1]},
		)
		for k := range w.Among {
			low, high := 0, 4
			if k > 0 {
				low = w.Among[k-1] + 1
			}
			if k+1 < len(w.Among) {
				high = w.Among[k+1] - 1
			}
			all = append(all, number{"umbrella " + strconv.Itoa(k) + of, func(s *api.Stand, n int) { s.Words[i].Among[k] = n }, low, high})
		}
	}
	return all
}

// outside are changes by which a number is not what it may be.
func outside(all []number) map[string]func(s *api.Stand) {
	list := map[string]func(s *api.Stand){}
	for _, x := range all {
		for name, n := range map[string]int{
			" too small": x.low - 1, " too great": x.high + 1, " least of all": math.MinInt, " greatest of all": math.MaxInt,
		} {
			list[x.name+name] = func(s *api.Stand) { x.set(s, n) }
		}
	}
	return list
}

// wrongStands are changes each of which alone makes the stand laden invalid.
func wrongStands() map[string]func(s *api.Stand) { return outside(numbersOfStand()) }

// wrongWords are changes each of which alone makes the words of the stand laden invalid.
func wrongWords() map[string]func(s *api.Stand) {
	all := outside(numbersOfWords())
	words := func(name string, list ...api.Word) {
		all[name] = func(s *api.Stand) { s.Words = list }
		all[name+" behind others"] = func(s *api.Stand) { s.Words = append(s.Words, list...) }
	}
	words("twenty-one words", slices.Repeat([]api.Word{kept(1, 0)}, 21)...)
	words("many words", slices.Repeat([]api.Word{kept(1, 0)}, 1000)...)
	words("the last of twenty words", append(slices.Repeat([]api.Word{kept(1, 0)}, 14), kept(1, 1))...)
	words("an empty word", api.Word{})
	words("no kind", api.Word{Among: []int{1}})
	words("took none", took(1))
	words("took none, that is empty", took(1, []int{}...))
	words("did not take none", notTook(1))
	words("took an umbrella twice", took(1, 2, 2))
	words("did not take an umbrella twice", notTook(1, 0, 0))
	words("took umbrellas that descend", took(1, 3, 2))
	words("did not take umbrellas that descend", notTook(1, 0, 1, 4, 3))
	words("took the umbrella of nobody", took(1, 5))
	words("took one more than all", took(1, 0, 1, 2, 3, 4, 5))
	words("took very many", took(1, make([]int, 1000)...))
	words("took with another", api.Word{Kind: api.Took, Guest: 1, Other: 2, Among: []int{0}})
	words("did not take with another", api.Word{Kind: api.NotTook, Guest: 1, Other: 4, Among: []int{0}})
	words("nobody took", took(5, 1))
	words("nobody did not take", notTook(-1, 1))
	words("swapped alone", swapped(1, 1))
	words("kept alone", kept(0, 0))
	words("swapped an umbrella", api.Word{Kind: api.Swapped, Guest: 1, Other: 2, Among: []int{0}})
	words("kept an umbrella", api.Word{Kind: api.Kept, Guest: 1, Other: 2, Among: []int{1}})
	words("kept nothing and something", api.Word{Kind: api.Kept, Guest: 1, Other: 2, Among: []int{-1}})
	words("swapped with nobody", swapped(1, 5))
	words("nobody swapped", swapped(5, 1))
	words("kept by nobody", kept(1, -1))
	words("a kind below all", api.Word{Kind: -1, Guest: 1, Among: []int{1}})
	words("a kind above all", api.Word{Kind: 5, Guest: 1, Other: 2})
	for guests := range 5 {
		all["words of others than "+strconv.Itoa(guests)] = func(s *api.Stand) { s.Guests = guests }
	}
	return all
}

// untrue are changes with which the stand laden has no truth, but has one if one more word may be wrong.
func untrue() []func(s *api.Stand) {
	more := func(w api.Word) func(s *api.Stand) { // the words of the stand laden leave 4 1 3 2 0 alone
		return func(s *api.Stand) { s.Words, s.Wrong = append(s.Words, w), 0 }
	}
	words := func(wrong int, list ...api.Word) func(s *api.Stand) {
		return func(s *api.Stand) { s.Words, s.Wrong = list, wrong }
	}
	return []func(s *api.Stand){
		more(took(1, 0, 2, 3, 4)), more(notTook(4, 0)), more(swapped(3, 1)), more(swapped(0, 1)), more(kept(2, 3)), more(kept(4, 0)), more(tookNone(4)),
		words(0, took(1, 0), took(2, 0)), words(0, took(1, 0), took(1, 3)), words(0, notTook(0, 4), notTook(1, 4), notTook(2, 4), notTook(3, 4), notTook(4, 4)), words(0, swapped(0, 1), swapped(1, 2)),
		words(0, tookNone(0)), words(2, tookNone(0), tookNone(1), tookNone(1)), words(1, took(1, 0), took(1, 3), took(1, 0), took(1, 3)),
		words(7, slices.Repeat([]api.Word{tookNone(3)}, 8)...),
	}
}

// tookNone says of a guest what cannot be: that it took none of the umbrellas of the stand laden.
func tookNone(guest int) api.Word { return notTook(guest, 0, 1, 2, 3, 4) }

// changed is the stand laden with something else in it.
func changed(changes ...func(s *api.Stand)) api.Stand {
	s := laden()
	for _, change := range changes {
		change(&s)
	}
	return s
}

func TestP10_1Check(t *testing.T) {
	for _, x := range numbersOfWords() {
		for _, n := range []int{x.low, x.high} {
			if e := stands.Check(changed(func(s *api.Stand) { x.set(s, n) })); e != api.OK {
				t.Errorf("%s of %d: error %d", x.name, n, e)
			}
		}
	}
	for name, wrong := range wrongStands() {
		if e := stands.Check(changed(wrong)); e != api.ErrStand {
			t.Errorf("%s: error %d", name, e)
		}
	}
	for name, wrong := range wrongWords() {
		if e := stands.Check(changed(wrong)); e != api.ErrWord {
			t.Errorf("%s: error %d", name, e)
		}
	}
}

func TestP10_1CheckEnds(t *testing.T) {
	all := []api.Stand{
		{}, {Wrong: 7}, {Guests: 1}, {Guests: 7}, {Guests: 7, Wrong: 7}, laden(),
		{Guests: 1, Words: []api.Word{took(0, 0), notTook(0, 0)}},
		{Guests: 2, Words: []api.Word{swapped(0, 1), swapped(1, 0), kept(0, 1), kept(1, 0)}},
		{Guests: 7, Words: slices.Repeat([]api.Word{took(6, 0, 1, 2, 3, 4, 5, 6)}, 20)},
		{Guests: 7, Words: slices.Repeat([]api.Word{notTook(0, 6)}, 20)},
		{Guests: 7, Words: slices.Repeat([]api.Word{swapped(0, 6)}, 20)},
		{Guests: 7, Words: append(slices.Repeat([]api.Word{kept(6, 0)}, 19), kept(0, 6)), Wrong: 7},
	}
	for guests := range 8 {
		for wrong := range 8 {
			all = append(all, api.Stand{Guests: guests, Wrong: wrong})
		}
	}
	for _, change := range untrue() { // a stand without a truth is valid
		all = append(all, changed(change))
	}
	for i, s := range all {
		if e := stands.Check(s); e != api.OK {
			t.Errorf("%d: error %d", i, e)
		}
	}
}

// answer is what a function returned, and whether it returned nothing but an error.
type answer struct {
	name  string
	value any
	zero  bool
	e     api.Errno
}

func answerOf[T any](name string, value T, e api.Errno) answer {
	v := reflect.ValueOf(value)
	zero := v.IsZero() || v.Kind() == reflect.Slice && v.Len() == 0
	return answer{name, value, zero, e}
}

func ofGuest(s api.Stand, guest int) []answer {
	can, e := stands.Can(s, guest)
	return []answer{answerOf("Can", can, e)}
}

// ofTruth are the answers of the functions that want a truth and nothing else.
func ofTruth(s api.Stand) []answer {
	known, e := stands.Known(s)
	liars, f := stands.Liars(s)
	questions, g := stands.Questions(s)
	ask, h := stands.Ask(s)
	return []answer{answerOf("Known", known, e), answerOf("Liars", liars, f), answerOf("Questions", questions, g), answerOf("Ask", ask, h)}
}

func ofMany(s api.Stand) []answer {
	many, e := stands.Many(s)
	return []answer{answerOf("Many", many, e)}
}

func allOf(s api.Stand, guest int) []answer {
	return slices.Concat(ofMany(s), ofGuest(s, guest), ofTruth(s))
}

func ofTaking(taking []int) []answer {
	swaps, e := stands.Swaps(taking)
	exchanges, f := stands.Exchange(taking)
	first, second, g := stands.Rounds(taking)
	return []answer{answerOf("Swaps", swaps, e), answerOf("Exchange", exchanges, f), answerOf("Rounds", first, g), answerOf("Rounds", second, g)}
}

func wantErrors(t *testing.T, what string, all []answer, e api.Errno) {
	t.Helper()
	for _, x := range all {
		if x.e != e || !x.zero {
			t.Errorf("%s: %s = %v, error %d; want error %d", what, x.name, x.value, x.e, e)
		}
	}
}

func wantOK(t *testing.T, what string, all []answer) {
	t.Helper()
	for _, x := range all {
		if x.e != api.OK {
			t.Errorf("%s: %s: error %d", what, x.name, x.e)
		}
	}
}

// noGuests are numbers that are no guest of the stand laden.
func noGuests() []int { return []int{-1, 5, 6, 7, 8, math.MinInt, math.MaxInt} }

// An invalid stand comes before invalid words, and these before a guest that is none.
func TestP1InvalidStands(t *testing.T) {
	for stand, wrong := range wrongStands() {
		for _, guest := range append(noGuests(), 0) {
			wantErrors(t, stand, allOf(changed(wrong), guest), api.ErrStand)
		}
		for word, change := range wrongWords() {
			wantErrors(t, stand+", "+word, allOf(changed(change, wrong), -1), api.ErrStand)
		}
	}
	for word, wrong := range wrongWords() {
		for _, guest := range append(noGuests(), 0) {
			wantErrors(t, word, allOf(changed(wrong), guest), api.ErrWord)
			wantErrors(t, "no truth, "+word, allOf(changed(untrue()[0], wrong), guest), api.ErrWord)
		}
	}
}

// A guest that is none comes before a stand without a truth.
func TestP1InvalidGuests(t *testing.T) {
	for _, s := range []api.Stand{laden(), changed(untrue()[0]), changed(untrue()[8])} {
		for _, guest := range noGuests() {
			wantErrors(t, "another guest", ofGuest(s, guest), api.ErrArg)
		}
	}
	for guest := range 5 {
		wantOK(t, "valid", allOf(laden(), guest))
	}
	for guests := range 8 {
		wantErrors(t, "one guest more", ofGuest(api.Stand{Guests: guests}, guests), api.ErrArg)
	}
}

func TestP1InvalidTakings(t *testing.T) {
	for i, taking := range [][]int{
		{1}, {-1}, {math.MinInt}, {math.MaxInt}, {0, 0}, {1, 1}, {0, 2}, {2, 0}, {-1, 0}, {0, 1, 1}, {0, 1, 3}, {1, 2, 3}, {0, 1, -2},
		{0, 1, 2, 3, 4, 5, 7}, {0, 1, 2, 3, 4, 5, 5}, {0, 1, 2, 3, 4, 5, 6, 7}, {7, 6, 5, 4, 3, 2, 1, 0}, {1, 2, 3, 4, 5, 6, 7}, {0, 1, 2, 3, 4, 5, 6, 0}, make([]int, 1000),
	} {
		wantErrors(t, strconv.Itoa(i), ofTaking(taking), api.ErrArg)
	}
	for guests := range 8 {
		wantOK(t, strconv.Itoa(guests), ofTaking(own(guests)))
	}
}

// own is the taking in which each guest took its own umbrella.
func own(guests int) []int {
	var taking []int
	for guest := range guests {
		taking = append(taking, guest)
	}
	return taking
}

// Without a truth nothing is known but that there is none.
func TestP1NoTruth(t *testing.T) {
	for i, change := range untrue() {
		s := changed(change)
		for guest := range 5 {
			wantErrors(t, strconv.Itoa(i), append(ofGuest(s, guest), ofTruth(s)...), api.ErrNone)
		}
		wantMany(t, s, 0)
		if s.Wrong < 7 {
			s.Wrong++
			wantOK(t, strconv.Itoa(i), allOf(s, 0))
		}
	}
}

// Without guests there is one taking, the empty one.
func TestP1NoGuests(t *testing.T) {
	for wrong := range 8 {
		s := api.Stand{Wrong: wrong}
		for _, guest := range []int{-1, 0, 1} {
			wantErrors(t, "no guests", ofGuest(s, guest), api.ErrArg)
		}
		wantMany(t, s, 1)
		wantKnown(t, s)
		wantLiars(t, s)
		wantQuestions(t, s, 0)
	}
	for _, w := range []api.Word{took(0, 0), notTook(0, 0), swapped(0, 1), kept(0, 1), {}} {
		wantErrors(t, "a word of nobody", allOf(api.Stand{Words: []api.Word{w}, Wrong: 1}, 0), api.ErrWord)
	}
}

func copied(s api.Stand) api.Stand {
	s.Words = slices.Clone(s.Words)
	for i, w := range s.Words {
		s.Words[i].Among = slices.Clone(w.Among)
	}
	return s
}

// filled sets all of a list, up to its capacity, to a number.
func filled(list []int) {
	for i := range list[:cap(list)] {
		list[:cap(list)][i] = -9
	}
}

// Arguments stay as they are, results are new memory, and the same is returned each time.
func TestP1Memory(t *testing.T) {
	for _, s := range []api.Stand{laden(), standS(), standT(), standV(), {Guests: 7, Words: []api.Word{took(0, 1, 2, 3), kept(4, 5)}}} {
		before, was := copied(s), allOf(s, 1)
		for _, x := range allOf(s, 1) {
			if list, ok := x.value.([]int); ok {
				filled(list)
			}
		}
		if !reflect.DeepEqual(s, before) {
			t.Errorf("%v became %v", before, s)
		}
		if again := allOf(s, 1); !reflect.DeepEqual(was, again) {
			t.Errorf("%v: %v, then %v", before, was, again)
		}
	}
	for _, taking := range [][]int{{1, 2, 0, 3}, {6, 5, 4, 3, 2, 1, 0}, {1, 2, 3, 4, 5, 6, 0}} {
		before, was := slices.Clone(taking), ofTaking(taking)
		var lists [][]int
		for _, x := range ofTaking(taking) {
			if list, ok := x.value.([][]int); ok {
				lists = append(lists, list...)
			}
		}
		for i, list := range lists { // no list has memory of another one
			later := clones(lists[i+1:])
			filled(list)
			if !reflect.DeepEqual(clones(lists[i+1:]), later) {
				t.Errorf("%v: %v became %v", before, later, lists[i+1:])
			}
		}
		if again := ofTaking(taking); !slices.Equal(taking, before) || !reflect.DeepEqual(was, again) {
			t.Errorf("%v became %v: %v, then %v", before, taking, was, again)
		}
	}
}

func clones(lists [][]int) [][]int {
	var all [][]int
	for _, list := range lists {
		all = append(all, slices.Clone(list))
	}
	return all
}

// The capacity of lists does not matter, and nothing behind their ends is changed.
func TestP1Capacity(t *testing.T) {
	s := standT()
	want := allOf(s, 1)
	more := copied(s)
	more.Words = append(more.Words, api.Word{Kind: -9}, took(0, 3))
	for i, w := range more.Words {
		more.Words[i].Among = append(w.Among, -9, 3)
	}
	before := copied(more)
	roomy := copied(more)
	roomy.Words = more.Words[:len(s.Words)]
	for i, w := range s.Words {
		roomy.Words[i].Among = more.Words[i].Among[:len(w.Among)]
	}
	if is := allOf(roomy, 1); !reflect.DeepEqual(is, want) {
		t.Errorf("%v; want %v", is, want)
	}
	for i, w := range more.Words {
		if !slices.Equal(w.Among[:cap(w.Among)][:len(before.Words[i].Among)], before.Words[i].Among) {
			t.Errorf("%v became %v", before.Words[i], w)
		}
	}
	taking := []int{1, 2, 0, -9, 3}
	if is := ofTaking(taking[:3]); !reflect.DeepEqual(is, ofTaking([]int{1, 2, 0})) || !slices.Equal(taking, []int{1, 2, 0, -9, 3}) {
		t.Errorf("%v of %v", is, taking)
	}
}

// An empty list is as none.
func TestP1Empty(t *testing.T) {
	for guests := range 8 {
		nothing, empty := api.Stand{Guests: guests}, api.Stand{Guests: guests, Words: []api.Word{}}
		if was, is := allOf(nothing, 0), allOf(empty, 0); !reflect.DeepEqual(was, is) {
			t.Errorf("%v; %v", was, is)
		}
	}
	s, u := standU(), standU()
	for i := range s.Words {
		if len(s.Words[i].Among) == 0 {
			s.Words[i].Among, u.Words[i].Among = nil, []int{}
		}
	}
	if was, is := allOf(s, 0), allOf(u, 0); !reflect.DeepEqual(was, is) {
		t.Errorf("%v; %v", was, is)
	}
	if was, is := ofTaking(nil), ofTaking([]int{}); !reflect.DeepEqual(was, is) {
		t.Errorf("%v; %v", was, is)
	}
}
