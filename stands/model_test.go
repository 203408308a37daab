package stands_test

import (
	"math/rand/v2"
	"slices"
	"testing"

	"ferrule/api"
	"ferrule/stands"
)

// model is a stand as the chapter defines it, with all its truths.
type model struct {
	s      api.Stand
	truths [][]int
	found  map[string]bool // whether some of the truths can be known after some questions
}

func newModel(s api.Stand) model {
	m := model{s: s, found: map[string]bool{}}
	permute(own(s.Guests), 0, func(taking []int) {
		if len(m.wrongWords(taking)) <= s.Wrong {
			m.truths = append(m.truths, slices.Clone(taking))
		}
	})
	return m
}

// permute goes through all orders of a list from a place on.
func permute(list []int, from int, visit func(list []int)) {
	if from == len(list) {
		visit(list)
		return
	}
	for i := from; i < len(list); i++ {
		list[from], list[i] = list[i], list[from]
		permute(list, from+1, visit)
		list[from], list[i] = list[i], list[from]
	}
}

// wrongWords are the words that are not so in a taking.
func (m model) wrongWords(taking []int) []int {
	var list []int
	for i, w := range m.s.Words {
		if !isSo(w, taking) {
			list = append(list, i)
		}
	}
	return list
}

func isSo(w api.Word, taking []int) bool {
	one := 0 // how many of the umbrellas the guest took
	for _, umbrella := range w.Among {
		if taking[w.Guest] == umbrella {
			one++
		}
	}
	switch w.Kind {
	case api.Took:
		return one == 1
	case api.NotTook:
		return one == 0
	case api.Swapped:
		return taking[w.Guest] == w.Other && taking[w.Other] == w.Guest
	case api.Kept:
		return !(taking[w.Guest] != w.Guest && taking[w.Other] != w.Other)
	}
	panic("a word of no kind")
}

func (m model) can(guest int) []int {
	var umbrellas []int
	for _, taking := range m.truths {
		if !slices.Contains(umbrellas, taking[guest]) {
			umbrellas = append(umbrellas, taking[guest])
		}
	}
	slices.Sort(umbrellas)
	return umbrellas
}

func (m model) known() []int {
	var list []int
	for guest := range m.s.Guests {
		umbrella := -1
		if can := m.can(guest); len(can) == 1 {
			umbrella = can[0]
		}
		list = append(list, umbrella)
	}
	return list
}

func (m model) liars() []int {
	var list []int
	for i := range m.s.Words {
		always := true
		for _, taking := range m.truths {
			always = always && slices.Contains(m.wrongWords(taking), i)
		}
		if always {
			list = append(list, i)
		}
	}
	return list
}

// with are those of some truths in which a guest took an umbrella.
func (m model) with(some []int, guest, umbrella int) []int {
	var rest []int
	for _, i := range some {
		if m.truths[i][guest] == umbrella {
			rest = append(rest, i)
		}
	}
	return rest
}

// after tells whether it can be known after n questions of some truths, as the chapter says it.
func (m model) after(some []int, n int) bool {
	if len(some) <= 1 || n == 0 {
		return len(some) <= 1
	}
	key := []byte{byte(n)}
	for _, i := range some {
		key = append(key, byte(i), byte(i>>8))
	}
	is, ok := m.found[string(key)]
	if !ok {
		for guest := range m.s.Guests {
			is = is || m.good(some, n, guest)
		}
		m.found[string(key)] = is
	}
	return is
}

// good tells whether a guest can be asked first, if there are n questions.
func (m model) good(some []int, n, guest int) bool {
	for umbrella := range m.s.Guests {
		if !m.after(m.with(some, guest, umbrella), n-1) {
			return false
		}
	}
	return true
}

func (m model) all() []int { return own(len(m.truths)) }

func (m model) questions() int {
	n := 0
	for !m.after(m.all(), n) {
		n++
	}
	return n
}

// goods are all guests who can be asked first; -1 if nobody need be.
func (m model) goods() []int {
	n := m.questions()
	if n == 0 {
		return []int{-1}
	}
	var guests []int
	for guest := range m.s.Guests {
		if m.good(m.all(), n, guest) {
			guests = append(guests, guest)
		}
	}
	return guests
}

// compare holds all that is said of a stand against the model.
func compare(t *testing.T, s api.Stand) {
	t.Helper()
	m := newModel(s)
	if e := stands.Check(s); e != api.OK {
		t.Errorf("error %d", e)
	}
	m.compareTruths(t)
	if len(m.truths) > 0 {
		wantQuestions(t, s, m.questions(), m.goods()...)
	}
	if t.Failed() {
		t.Errorf("%+v", s)
	}
}

// compareTruths holds all against the model but how it can be known.
func (m model) compareTruths(t *testing.T) {
	t.Helper()
	wantMany(t, m.s, len(m.truths))
	if len(m.truths) == 0 {
		wantErrors(t, "no truth", ofTruth(m.s), api.ErrNone)
		return
	}
	for guest := range m.s.Guests {
		wantCan(t, m.s, guest, m.can(guest)...)
	}
	wantKnown(t, m.s, m.known()...)
	wantLiars(t, m.s, m.liars()...)
}

// fewest are all takings of guests, and with how few exchanges each can be made from the one in which all is right.
func fewest(guests int) map[string]int {
	start := keyOf(own(guests))
	found, list := map[string]int{start: 0}, []string{start}
	for i := 0; i < len(list); i++ {
		taking := takingOf(list[i])
		for a := range guests {
			for b := range a {
				taking[a], taking[b] = taking[b], taking[a]
				key := keyOf(taking)
				if _, ok := found[key]; !ok {
					found[key] = found[list[i]] + 1
					list = append(list, key)
				}
				taking[a], taking[b] = taking[b], taking[a]
			}
		}
	}
	return found
}

func keyOf(taking []int) string {
	var key []byte
	for _, umbrella := range taking {
		key = append(key, byte(umbrella))
	}
	return string(key)
}

func takingOf(key string) []int {
	var taking []int
	for _, umbrella := range []byte(key) {
		taking = append(taking, int(umbrella))
	}
	return taking
}

// random draws stands, always the same ones.
type random struct{ *rand.Rand }

func newRandom(seed uint64) random { return random{rand.New(rand.NewPCG(seed, 10))} }

func (x random) from(low, high int) int { return low + x.IntN(high-low+1) }

// size is how many stands are drawn, with how many guests, words and wrong words, and
// in how many of hundred words is said what is not so.
type size struct {
	many           int
	guests, words  api.Span
	wrong, hundred int
}

func span(low, high int) api.Span { return api.Span{Low: low, High: high} }

func sizes() map[string]size {
	return map[string]size{
		"two guests":   {300, span(0, 2), span(0, 6), 3, 30},
		"three guests": {1500, span(3, 3), span(0, 5), 2, 20},
		"four guests":  {1500, span(4, 4), span(0, 6), 2, 15},
		"five guests":  {800, span(5, 5), span(1, 8), 2, 10},
		"six guests":   {300, span(6, 6), span(4, 12), 2, 8},
		"seven guests": {90, span(7, 7), span(8, 20), 2, 5},
		"many words":   {600, span(3, 5), span(15, 20), 7, 30},
		"one wrong":    {400, span(4, 6), span(6, 12), 1, 10},
		"none wrong":   {800, span(4, 6), span(1, 6), 0, 0},
		"any words":    {800, span(2, 4), span(1, 12), 5, 50},
	}
}

// word draws what somebody said; kinds as often as they say something.
func (x random) word(guests int) api.Word {
	guest := x.IntN(guests)
	kind := x.from(api.Took, api.Kept)
	if kind >= api.Swapped && guests > 1 {
		return api.Word{Kind: kind, Guest: guest, Other: (guest + x.from(1, guests-1)) % guests}
	}
	among := x.Perm(guests)[:x.from(1, guests)]
	slices.Sort(among)
	return api.Word{Kind: x.from(api.Took, api.NotTook), Guest: guest, Among: among}
}

// stand draws words most of which are so in one taking.
func (x random) stand(z size) api.Stand {
	s := api.Stand{Guests: x.from(z.guests.Low, z.guests.High), Wrong: x.IntN(z.wrong + 1)}
	taking := x.Perm(s.Guests)
	for range x.from(z.words.Low, z.words.High) {
		if s.Guests == 0 {
			break
		}
		w := x.word(s.Guests)
		for so := x.IntN(100) >= z.hundred; so && !isSo(w, taking); {
			w = x.word(s.Guests)
		}
		s.Words = append(s.Words, w)
	}
	return s
}

func TestModel(t *testing.T) {
	for name, z := range sizes() {
		t.Run(name, func(t *testing.T) {
			x := newRandom(1)
			for range z.many {
				compare(t, x.stand(z))
				if t.Failed() {
					return
				}
			}
		})
	}
}

// Stands with many truths, of which the model says how they can be known for a few.
func TestModelOfLargeStands(t *testing.T) {
	met := map[string]int{}
	x := newRandom(2)
	for i := range 60 {
		m := newModel(x.stand(size{1, span(7, 7), span(0, 10), 6, 10}))
		m.compareTruths(t)
		if many := len(m.truths); many > 0 && (many < 400 || i%20 == 0) {
			compare(t, m.s)
			count(met, map[string]bool{"compared": true, "many": many > 200, "very many": many > 1000})
		}
		if t.Failed() {
			t.Fatalf("%+v", m.s)
		}
	}
	wantMet(t, met, 1, "compared", "many", "very many")
}

// count counts what is so.
func count(met map[string]int, all map[string]bool) {
	for name, is := range all {
		if is {
			met[name]++
		}
	}
}

// wantMet wants that each of these was met a number of times at the least.
func wantMet(t *testing.T, met map[string]int, least int, names ...string) {
	t.Helper()
	for _, name := range names {
		if met[name] < least {
			t.Errorf("%s: %d", name, met[name])
		}
	}
}

// The stands that are drawn have all that can be in them.
func TestModelMeetsAll(t *testing.T) {
	met := map[string]int{}
	for _, z := range sizes() {
		x := newRandom(1)
		for range z.many {
			m := newModel(x.stand(z))
			many := len(m.truths)
			count(met, map[string]bool{"no truth": many == 0, "one truth": many == 1, "many truths": many > 20})
			if many > 0 {
				meetWords(met, m)
				meetQuestions(met, m)
			}
		}
	}
	wantMet(t, met, 20,
		"no truth", "one truth", "many truths", "some known", "all but two known", "no liars", "a liar", "liars", "liars and others that can be wrong", "no word is surely so",
		"took", "did not take", "swapped", "kept", "one of two kept",
		"no questions", "one question", "two questions", "three questions", "four questions", "as many as can be", "fewer than can be", "more than the answers want",
		"the first open guest is no good", "only one guest is good", "other guests are asked next",
	)
}

func meetWords(met map[string]int, m model) {
	liars, surely := m.liars(), 0 // how many words are so in all truths
	perhaps := false
	for i, w := range m.s.Words {
		so := 0
		for _, taking := range m.truths {
			if isSo(w, taking) {
				so++
			}
		}
		if so == len(m.truths) {
			surely++
		}
		perhaps = perhaps || so > 0 && so < len(m.truths)
		some := so > 0 && !slices.Contains(liars, i)
		count(met, map[string]bool{
			"took": some && w.Kind == api.Took, "did not take": some && w.Kind == api.NotTook, "swapped": some && w.Kind == api.Swapped, "kept": some && w.Kind == api.Kept,
			"one of two kept": w.Kind == api.Kept && so == len(m.truths) && len(m.can(w.Guest)) > 1 && len(m.can(w.Other)) > 1,
		})
	}
	known := m.s.Guests
	for _, umbrella := range m.known() {
		if umbrella == -1 {
			known--
		}
	}
	count(met, map[string]bool{
		"no liars": len(liars) == 0, "a liar": len(liars) == 1, "liars": len(liars) > 1, "liars and others that can be wrong": len(liars) > 0 && perhaps,
		"no word is surely so": len(m.s.Words) > 0 && surely == 0, "some known": known > 0 && known < m.s.Guests, "all but two known": known == m.s.Guests-2 && known > 0,
	})
}

func meetQuestions(met map[string]int, m model) {
	n, goods := m.questions(), m.goods()
	open := func(guest int) bool { return m.known()[guest] == -1 }
	first := slices.IndexFunc(own(m.s.Guests), open)
	answers := 0 // of so many guests and umbrellas there can be
	for _, umbrella := range m.known() {
		if umbrella == -1 {
			answers++
		}
	}
	enough, reached := 0, 1
	for reached < len(m.truths) {
		reached *= answers - enough
		enough++
	}
	count(met, map[string]bool{
		"no questions": n == 0, "one question": n == 1, "two questions": n == 2, "three questions": n == 3, "four questions": n >= 4,
		"as many as can be": n > 1 && n == m.s.Guests-1, "fewer than can be": n > 0 && n < answers-1, "more than the answers want": n > enough,
		"the first open guest is no good": n > 0 && !slices.Contains(goods, first), "only one guest is good": n > 0 && len(goods) == 1,
		"other guests are asked next": n > 1 && !m.alike(n),
	})
}

// alike tells whether it can be known after n questions to the same guests, whatever they answer.
func (m model) alike(n int) bool {
	for set := range 1 << m.s.Guests {
		seen, asked := map[[api.MaxGuests]int]bool{}, 0
		for _, taking := range m.truths {
			var answers [api.MaxGuests]int
			asked = 0
			for guest, umbrella := range taking {
				if set>>guest&1 == 1 {
					answers[guest] = umbrella
					asked++
				}
			}
			seen[answers] = true
		}
		if asked <= n && len(seen) == len(m.truths) {
			return true
		}
	}
	return false
}
