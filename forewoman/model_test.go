package forewoman_test

import (
	"fmt"
	"maps"
	"math/rand/v2"
	"regexp"
	"slices"
	"strconv"
	"strings"
	"testing"

	"ferrule/api"
	"ferrule/forewoman"
	"ferrule/hire"
	"ferrule/orders"
	"ferrule/parts"
)

// model is a desk as the chapter defines it, with slips by their Ids and voided
// Ids as a set. Slips, pieces and all else that is added is checked by itself.
type model struct {
	shop   api.Shop
	clerks []api.Span
	closed []api.Span
	tariff api.Tariff
	slips  map[int]api.Slip
	voided map[int]bool
}

func newModel(d api.Desk) *model {
	d = copied(d)
	m := &model{d.Shop, d.Counter.Clerks, d.Counter.Closed, d.Counter.Tariff, map[int]api.Slip{}, map[int]bool{}}
	for _, s := range d.Counter.Slips {
		m.slips[s.Id] = s
	}
	for _, id := range d.Counter.Voided {
		m.voided[id] = true
	}
	return m
}

func (m *model) counter() api.Counter {
	c := api.Counter{Clerks: m.clerks, Closed: m.closed, Tariff: m.tariff}
	for id := range 100 {
		if s, ok := m.slips[id]; ok {
			c.Slips = append(c.Slips, s)
		}
		if m.voided[id] {
			c.Voided = append(c.Voided, id)
		}
	}
	return c
}

func (m *model) desk() api.Desk { return api.Desk{Shop: m.shop, Counter: m.counter()} }

// clearLine is a line that is not answered ?, but for how many numbers its word needs.
var clearLine = regexp.MustCompile(`\A([a-z]+)((?: (?:0|[1-9][0-9]{0,5}))*)\z`)

// needs are how many numbers a word needs, and tells whether more may follow.
func needs(word string) (int, bool) {
	switch word {
	case "most", "extra":
		return 0, false
	case "takes":
		return 0, true
	case "void", "lasts", "fee", "owes", "held", "missing", "drop", "can":
		return 1, false
	case "where", "stock":
		return 2, false
	case "fits", "comes":
		return 3, false
	case "back", "trial":
		return 4, false
	case "piece":
		return 4, true
	case "lend":
		return 5, false
	case "wish":
		return 5, true
	}
	return -1, false
}

func (m *model) answer(line string) string {
	found := clearLine.FindStringSubmatch(line)
	if found == nil {
		return "?"
	}
	var n []int
	for _, word := range strings.Fields(found[2]) {
		number, _ := strconv.Atoi(word)
		n = append(n, number)
	}
	many, more := needs(found[1])
	if many < 0 || len(n) < many || len(n) > many && !more {
		return "?"
	}
	switch found[1] {
	case "lend", "back", "void":
		return said(m.slip(found[1], n))
	case "lasts", "fee", "owes", "held", "where", "missing":
		return m.hire(found[1], n)
	case "trial":
		return m.tried(trial(n[0], n[1], n[2], n[3]))
	case "stock", "comes", "piece", "wish", "drop":
		return said(m.change(found[1], n))
	}
	return m.order(found[1], n)
}

func said(ok bool) string { return map[bool]string{true: "ok", false: "no"}[ok] }

// all tells whether numbers are from 0 to others: the first one to the second one, and so on.
func all(pairs ...int) bool {
	for i := 0; i < len(pairs); i += 2 {
		if pairs[i] < 0 || pairs[i] > pairs[i+1] {
			return false
		}
	}
	return true
}

func (m *model) slip(word string, n []int) bool {
	if word == "void" {
		if n[0] > 99 || !m.voided[n[0]] && len(m.voided) == 12 {
			return false
		}
		m.voided[n[0]] = true
		return true
	}
	s := api.Slip{Id: n[0], Clerk: n[1], At: n[2], Umbrella: n[3], Kind: api.Returned}
	if word == "lend" {
		s.Kind, s.Guest = api.Lent, n[4]
	}
	old, has := m.slips[s.Id]
	if !all(s.Id, 99, s.Clerk, len(m.clerks)-1, s.At, 9999, s.Umbrella, 9, s.Guest, 99) || has && old != s || !has && len(m.slips) == 12 {
		return false
	}
	m.slips[s.Id] = s
	return true
}

// list are numbers as they are said, and nothing of none.
func list(numbers []int) string {
	if len(numbers) == 0 {
		return "none"
	}
	return strings.ReplaceAll(strings.Trim(fmt.Sprint(numbers), "[]"), "-1", "shop")
}

// asked are the numbers of an answer, or that there are none.
func asked(e api.Errno, numbers ...int) string {
	return map[api.Errno]string{api.OK: list(numbers), api.ErrNone: "none", api.ErrArg: "no"}[e]
}

func (m *model) hire(word string, n []int) string {
	c := m.counter()
	var s api.Span
	var e api.Errno
	switch word {
	case "lasts":
		s, e = hire.Lasts(c, n[0])
	case "fee":
		s, e = hire.Fee(c, n[0])
	case "owes":
		s, e = hire.Owes(c, n[0])
	case "held":
		s, e = hire.Held(c, n[0])
	case "where":
		l, e := hire.Where(c, n[0], n[1])
		return asked(e, l...)
	case "missing":
		sure, may, e := hire.Missing(c, n[0])
		if e == api.OK {
			return list(sure) + " / " + list(may)
		}
		return asked(e)
	}
	return asked(e, s.Low, s.High)
}

// isTrue tells whether a workshop has a truth: for each spare some length with which all its trials are so.
func isTrue(w api.Workshop) bool {
	for i, p := range w.Spares {
		some := false
		for n := p.Length.Low; n <= p.Length.High && !some; n++ {
			some = true
			for _, t := range w.Table {
				x := w.Makes[t.Make].Slots[t.Slot]
				fits := p.Kind == x.Kind && slices.Contains(x.Sections, p.Section) && x.Length.Low <= n && n <= x.Length.High+w.Cut
				some = some && (t.Spare != i || fits == (t.Fits == 1))
			}
		}
		if !some {
			return false
		}
	}
	return true
}

func (m *model) tried(t api.Trial) string {
	w := m.shop.Workshop
	if !all(t.Spare, len(w.Spares)-1, t.Make, len(w.Makes)-1, t.Fits, 1) || t.Slot >= len(w.Makes[t.Make].Slots) || len(w.Table) == 30 {
		return "no"
	}
	for _, old := range w.Table {
		if old.Spare == t.Spare && old.Make == t.Make && old.Slot == t.Slot && old.Fits != t.Fits {
			return "no"
		}
	}
	w.Table = slices.Concat(w.Table, []api.Trial{t})
	if !isTrue(w) {
		return "liar"
	}
	m.shop.Workshop = w
	return "ok"
}

// ascends tells whether numbers ascend strictly, from 0 to the greatest one that is allowed.
func ascends(numbers []int, greatest int) bool {
	before := -1
	for _, n := range numbers {
		if n <= before || n > greatest {
			return false
		}
		before = n
	}
	return true
}

func (m *model) change(word string, n []int) bool {
	s := &m.shop
	ok := false
	switch word {
	case "stock":
		if ok = n[0] < len(s.Stock) && s.Stock[n[0]]+n[1] <= 10; ok {
			s.Stock[n[0]] += n[1]
		}
	case "comes":
		if ok = len(s.Deliveries) < 8 && n[2] > 0 && all(n[0], 99, n[1], len(s.Stock)-1, n[2], 10); ok {
			s.Deliveries = append(s.Deliveries, delivery(n[0], n[1], n[2]))
		}
	case "piece":
		ok = len(s.Pieces) < 8 && all(n[0], 99, n[1], 99, n[2], 99, n[3], len(s.Workshop.Makes)-1)
		if ok = ok && ascends(n[4:], len(s.Workshop.Makes[n[3]].Slots)-1); ok {
			s.Pieces = append(s.Pieces, piece(n[0], n[1], n[2], n[3], n[4:]...))
		}
	case "wish":
		ok = len(s.Wishes) < 6 && all(n[0], n[1], n[1], 99, n[2], 99, n[3], 99, n[4], 100000)
		if ok = ok && len(n) > 5 && len(n) < 14 && ascends(n[5:], 99); ok {
			s.Wishes = append(s.Wishes, wish(n[0], n[1], n[2], n[3], n[4], n[5:]...))
		}
	case "drop":
		if ok = n[0] < len(s.Wishes); ok {
			s.Wishes = slices.Concat(s.Wishes[:n[0]], s.Wishes[n[0]+1:])
		}
	}
	return ok
}

func (m *model) order(word string, n []int) string {
	var number int
	var e api.Errno
	switch word {
	case "fits":
		known, e := parts.Fits(m.shop.Workshop, n[0], n[1], n[2])
		if e == api.OK {
			return map[int]string{1: "surely", 2: "never", 3: "perhaps"}[known]
		}
		return asked(e)
	case "can":
		can, e := orders.Can(m.shop, n[0])
		return asked(e, can...)
	case "takes":
		plan := slices.Clone(n)
		for i := range plan {
			plan[i]--
		}
		number, e = orders.Takes(m.shop, plan)
	case "most":
		number, e = orders.Most(m.shop)
	case "extra":
		number, e = orders.Extra(m.shop)
	}
	return asked(e, number)
}

// random draws desks and scripts, always the same ones.
type random struct{ *rand.Rand }

func newRandom(seed uint64) random { return random{rand.New(rand.NewPCG(seed, 12))} }

func (x random) from(low, high int) int { return low + x.IntN(high-low+1) }

// size is how many desks are drawn, and how large they are at most: spares,
// pieces, wishes, deliveries, trials, clerks, minutes by which a watch is
// wrong, slips; and how often a line is drawn that is wrong.
type size struct {
	many, spares, pieces, wishes, deliveries, trials, clerks, slow, slips, wrong int
}

func sizes() map[string]size {
	return map[string]size{
		"empty":       {1500, 2, 0, 0, 0, 0, 2, 3, 0, 9},
		"small":       {2000, 3, 3, 2, 2, 3, 2, 4, 5, 9},
		"many spares": {600, 10, 4, 2, 3, 20, 1, 2, 3, 9},
		"many slips":  {1500, 2, 2, 2, 1, 1, 3, 5, 11, 9},
		"slow":        {1000, 2, 2, 2, 1, 1, 2, 20, 7, 9},
		"full":        {400, 6, 8, 6, 8, 30, 2, 2, 12, 9},
		"no errors":   {1500, 4, 3, 2, 2, 4, 2, 9, 4, 1000},
	}
}

func (x random) workshop(z size) api.Workshop {
	w := api.Workshop{Cut: x.IntN(4)}
	for range x.from(min(1, x.IntN(15)), z.spares) {
		low := x.from(5, 12)
		w.Spares = append(w.Spares, spare(x.IntN(9)/8, x.IntN(2), low, low+x.IntN(6)))
	}
	for range x.from(1, 3) {
		var m api.Make
		for range x.from(1, 3) {
			low := x.from(4, 12)
			s := slot(x.IntN(9)/8, low, low+x.IntN(8), 0, 1)
			if x.IntN(3) == 0 {
				s.Sections = []int{x.IntN(2)}
			}
			m.Slots = append(m.Slots, s)
		}
		w.Makes = append(w.Makes, m)
	}
	many := x.from(z.trials/2, z.trials)
	for range 10 * many {
		if len(w.Table) < many {
			w = x.tried(w)
		}
	}
	return w
}

// tried draws a trial more that leaves a truth; now and then one that does not, but does not clash.
func (x random) tried(w api.Workshop) api.Workshop {
	if len(w.Spares) == 0 {
		return w
	}
	t := trial(x.IntN(len(w.Spares)), x.IntN(len(w.Makes)), 0, x.IntN(2))
	t.Slot = x.IntN(len(w.Makes[t.Make].Slots))
	more := w
	more.Table = append(slices.Clone(w.Table), t)
	if parts.Check(more) != api.OK || !isTrue(more) && x.IntN(200) > 0 {
		return w
	}
	return more
}

func (x random) shop(z size) api.Shop {
	s := api.Shop{Workshop: x.workshop(z), Carve: x.IntN(3)}
	for range s.Workshop.Spares {
		s.Stock = append(s.Stock, x.IntN(11)*x.IntN(2)*x.IntN(2))
	}
	for len(s.Pieces) < z.pieces && x.IntN(8) > 0 {
		s.Pieces = append(s.Pieces, x.piece(s.Workshop))
	}
	for len(s.Wishes) < z.wishes && x.IntN(8) > 0 {
		s.Wishes = append(s.Wishes, x.wish())
	}
	for len(s.Deliveries) < z.deliveries && len(s.Stock) > 0 && x.IntN(8) > 0 {
		s.Deliveries = append(s.Deliveries, delivery(x.IntN(5), x.IntN(len(s.Stock)), x.from(1, 2)))
	}
	return s
}

func (x random) piece(w api.Workshop) api.Piece {
	p := piece(x.IntN(2), x.IntN(3), x.IntN(2), x.IntN(len(w.Makes)))
	for i := range w.Makes[p.Make].Slots {
		if x.IntN(2) == 0 {
			p.Broken = append(p.Broken, i)
		}
	}
	return p
}

func (x random) wish() api.Wish {
	w := wish(x.IntN(2), x.from(1, 2), x.IntN(2), x.IntN(6), x.IntN(9), x.IntN(2))
	if x.IntN(2) == 0 {
		w.Colors = []int{0, 1}
	}
	return w
}

func (x random) counter(z size) api.Counter {
	c := api.Counter{Tariff: api.Tariff{Free: x.IntN(6), Unit: x.from(1, 9), Price: x.IntN(9), Most: x.IntN(40), Lost: x.from(1, 60), Value: x.IntN(90), Pledge: x.IntN(9)}}
	for range x.from(1, z.clerks) {
		low := x.from(-z.slow, z.slow)
		c.Clerks = append(c.Clerks, span(low, x.from(low, z.slow)))
	}
	if x.IntN(2) == 0 {
		low := x.IntN(60)
		c.Closed = []api.Span{span(low, low+x.IntN(30))}
	}
	m := newModel(api.Desk{Counter: c})
	for at := 0; len(m.slips) < z.slips && x.IntN(12) > 0; at += x.IntN(1 + z.slips) {
		m.answer(x.slip(m, at))
	}
	c = m.counter()
	if len(c.Slips) > 0 && len(c.Slips) < 10 { // in another order, and one twice
		c.Slips = append(c.Slips, c.Slips[x.IntN(len(c.Slips))])
		x.Shuffle(len(c.Slips), func(i, k int) { c.Slips[i], c.Slips[k] = c.Slips[k], c.Slips[i] })
	}
	for range max(0, x.IntN(7)-4) {
		c.Voided = append(c.Voided, x.IntN(100))
	}
	return c
}

func (x random) desk(z size) api.Desk { return api.Desk{Shop: x.shop(z), Counter: x.counter(z)} }

// slip draws a slip at about a minute, most of them such that there is a truth.
func (x random) slip(m *model, at int) string {
	id, clerk, umbrella := x.IntN(100), x.IntN(len(m.clerks)), x.IntN(3)
	where, _ := hire.Where(m.counter(), umbrella, at)
	if len(where) > 0 && where[0] >= 0 == (x.IntN(9) > 0) {
		return fmt.Sprintf("back %d %d %d %d", id, clerk, at, umbrella)
	}
	return fmt.Sprintf("lend %d %d %d %d %d", id, clerk, at, umbrella, x.IntN(4))
}

// oneOf draws the Id of a slip, or now and then another one.
func (x random) oneOf(m *model) int {
	ids := slices.Sorted(maps.Keys(m.slips))
	if len(ids) == 0 || x.IntN(8) == 0 {
		return x.IntN(100)
	}
	return ids[x.IntN(len(ids))]
}

// clear draws a line that most often is answered neither ? nor no.
func (x random) clear(m *model, at int) string {
	s, w := m.shop, m.shop.Workshop
	maker := x.IntN(len(w.Makes))
	slot := x.IntN(len(w.Makes[maker].Slots))
	wishes, spares := max(1, len(s.Wishes)), max(1, len(s.Stock))
	switch x.IntN(22) {
	case 0, 1, 2, 3:
		return x.slip(m, at)
	case 4:
		return fmt.Sprint("void ", x.oneOf(m))
	case 5:
		return fmt.Sprint("lasts ", x.oneOf(m))
	case 6:
		return fmt.Sprint("fee ", x.oneOf(m))
	case 7:
		return fmt.Sprint("owes ", x.IntN(5))
	case 8:
		return fmt.Sprint("held ", at)
	case 9:
		return fmt.Sprint("where ", x.IntN(5), " ", max(0, at-x.IntN(5)))
	case 10:
		return fmt.Sprint("missing ", at+x.IntN(60))
	case 11, 12:
		return fmt.Sprint("trial ", x.IntN(spares), " ", maker, " ", slot, " ", x.IntN(2))
	case 13:
		return fmt.Sprint("fits ", x.IntN(spares), " ", maker, " ", slot)
	case 14:
		return fmt.Sprint("stock ", x.IntN(spares), " ", x.IntN(4))
	case 15:
		return fmt.Sprint("comes ", x.IntN(6), " ", x.IntN(spares), " ", x.from(1, 3))
	case 16:
		p := x.piece(w)
		return fmt.Sprint("piece ", p.Color, " ", p.Size, " ", p.Letter, " ", p.Make) + behind(p.Broken)
	case 17:
		w := x.wish()
		return fmt.Sprint("wish ", w.Size.Low, " ", w.Size.High, " ", w.Letter, " ", w.Due, " ", w.Price) + behind(w.Colors)
	case 18:
		return fmt.Sprint("drop ", x.IntN(wishes))
	case 19:
		return fmt.Sprint("can ", x.IntN(wishes))
	case 20:
		return "takes" + behind(x.plan(s))
	}
	return []string{"most", "extra"}[x.IntN(2)]
}

// behind are numbers with a blank before each.
func behind(numbers []int) string {
	line := ""
	for _, n := range numbers {
		line += " " + strconv.Itoa(n)
	}
	return line
}

// plan draws a number for each wish: 0, or that of a piece, more by 1, that no other one has.
func (x random) plan(s api.Shop) []int {
	var plan []int
	pieces := x.Perm(len(s.Pieces))
	for i := range s.Wishes {
		n := 0
		if i < len(pieces) && x.IntN(2) == 0 {
			n = pieces[i] + 1
		}
		plan = append(plan, n)
	}
	if orders.Check(s) == api.OK && len(plan) > 0 && x.IntN(2) == 0 { // one that can be filled
		best, _ := orders.Plan(s)
		for i := range best {
			plan[i] = best[i] + 1
		}
	}
	return plan
}

// line draws any line: most of them clear, some with a number that is another one, some that are unclear.
func (x random) line(z size, m *model, at int) string {
	line := x.clear(m, at)
	if x.IntN(z.wrong) > 0 {
		return line
	}
	words := strings.Split(line, " ")
	i := x.IntN(len(words))
	switch x.IntN(5) {
	case 0:
		words[i] = []string{"", "-1", "01", "+1", "x", "1000000", "1 ", "Most", "00"}[x.IntN(9)]
	case 1:
		words = slices.Insert(words, x.IntN(len(words)+1), strconv.Itoa(x.IntN(4)))
	case 2:
		words = slices.Delete(words, i, i+1)
	default:
		if i > 0 {
			words[i] = strconv.Itoa([]int{2, 3, 10, 99, 100, 9999, 10000, 100000, 100001, 999999}[x.IntN(10)])
		}
	}
	return strings.Join(words, " ")
}

// script draws lines of a desk, with the answers of the model, which becomes the desk after them.
func (x random) script(z size, m *model) (script, answers []string) {
	at := x.IntN(80)
	for range x.from(0, api.MaxScript) {
		line := x.line(z, m, at)
		if len(script) > 0 && x.IntN(9) == 0 {
			line = script[x.IntN(len(script))]
		}
		script, answers = append(script, line), append(answers, m.answer(line))
		at += max(0, x.IntN(12)-4)
	}
	return script, answers
}

func TestModel(t *testing.T) {
	for name, z := range sizes() {
		t.Run(name, func(t *testing.T) {
			x := newRandom(1)
			for range z.many {
				d := x.desk(z)
				m := newModel(d)
				script, want := x.script(z, m)
				answers, after, e := forewoman.Run(d, script)
				if e != api.OK || !slices.Equal(answers, want) || !same(after, m.desk()) {
					t.Fatalf("%+v: error %d\n%q\n%q; want\n%q\n%+v; want\n%+v", d, e, script, answers, want, after, m.desk())
				}
			}
		})
	}
}

// count counts what is so.
func count(met map[string]int, all map[string]bool) {
	for name, is := range all {
		if is {
			met[name]++
		}
	}
}

// wantMet wants that each of these was met a number of times at the least.
func wantMet(t *testing.T, met map[string]int, least int, names ...string) {
	t.Helper()
	for _, name := range names {
		if met[name] < least {
			t.Errorf("%s: %d", name, met[name])
		}
	}
}

// kind is what sort of answer one is: with x for each number that is not 0.
func kind(answer string) string {
	return regexp.MustCompile(`[1-9][0-9]*`).ReplaceAllString(answer, "x")
}

// The scripts that are drawn have all lines, each with all that can be answered.
func TestModelMeetsAll(t *testing.T) {
	met := map[string]int{}
	for _, z := range sizes() {
		x := newRandom(1)
		for range z.many {
			m := newModel(x.desk(z))
			was := isTrue(m.shop.Workshop)
			script, answers := x.script(z, m)
			for i, line := range script {
				word, _, _ := strings.Cut(line, " ")
				met[word+": "+kind(answers[i])]++
				again := slices.Index(script, line) < i
				count(met, map[string]bool{
					word + " again: " + kind(answers[i]): again, "changed": again && answers[slices.Index(script, line)] != answers[i],
					word + " without truth: " + kind(answers[i]): !was,
				})
			}
			count(met, map[string]bool{
				"twelve slips": len(m.slips) == 12, "twelve voided": len(m.voided) == 12, "30 trials": len(m.shop.Workshop.Table) == 30, "8 pieces": len(m.shop.Pieces) == 8, "6 wishes": len(m.shop.Wishes) == 6, "8 deliveries": len(m.shop.Deliveries) == 8,
			})
		}
	}
	for word, answers := range map[string]string{
		"lend": "ok no ?", "back": "ok no ?", "void": "ok no ?", "trial": "ok no liar ?", "stock": "ok no ?", "comes": "ok no ?", "piece": "ok no ?", "wish": "ok no ?", "drop": "ok no ?",
		"lasts": "x_x 0_0 none no ?", "fee": "x_x 0_0 0_x none no ?", "owes": "x_x 0_0 0_x none no ?", "held": "x_x 0_0 0_x none no ?",
		"where": "shop shop_x x 0 shop_0 none no ?", "missing": "none_/_none none_/_x x_/_x x_/_x_x none no ?", "fits": "surely never perhaps none no ?",
		"can": "none 0 x 0_x x_x x_x_x no ?", "takes": "x 0 none no ?", "most": "x 0 none ?", "extra": "x 0 none ?",
		"lend again": "ok no", "back again": "ok no", "void again": "ok", "trial again": "ok no liar", "stock again": "ok no", "comes again": "ok no", "piece again": "ok no", "wish again": "ok no",
		"trial without truth": "liar no", "stock without truth": "ok no", "wish without truth": "ok no", "fits without truth": "none", "lend without truth": "ok",
	} {
		for _, a := range strings.Fields(answers) {
			wantMet(t, met, 3, word+": "+strings.ReplaceAll(a, "_", " "))
		}
	}
	wantMet(t, met, 20, "changed", "twelve slips", "8 pieces", "6 wishes", "8 deliveries")
	wantMet(t, met, 5, "30 trials")
}
