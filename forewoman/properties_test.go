package forewoman_test

import (
	"fmt"
	"slices"
	"strings"
	"testing"

	"ferrule/api"
	"ferrule/forewoman"
	"ferrule/hire"
	"ferrule/orders"
	"ferrule/parts"
)

// drawn is a desk and a script.
type drawn struct {
	d      api.Desk
	script []string
}

// drawns are desks and scripts of all sizes.
func drawns(seed uint64, many int) []drawn {
	x := newRandom(seed)
	list := []drawn{{deskD(), words()}, {laden(), busy()}, {deskD(lost), append(words(), busy()[:15]...)}}
	for _, name := range []string{"empty", "small", "many spares", "many slips", "slow", "full", "no errors"} {
		for range many {
			d := x.desk(sizes()[name])
			script, _ := x.script(sizes()[name], newModel(d))
			list = append(list, drawn{d, script})
		}
	}
	return list
}

// runAll is what Run returns of a script that can be too long for one call.
func runAll(t *testing.T, d api.Desk, script []string) ([]string, api.Desk) {
	t.Helper()
	answers, d := run(t, d)
	for part := range slices.Chunk(script, api.MaxScript) {
		var some []string
		some, d = run(t, d, part...)
		answers = append(answers, some...)
	}
	return answers, d
}

func TestP12_3OneAfterTheOther(t *testing.T) {
	x := newRandom(3)
	for _, p := range drawns(3, 60) {
		answers, after := run(t, p.d, p.script...)
		var single []string
		_, d := run(t, p.d)
		for _, line := range p.script {
			var answer []string
			answer, d = run(t, d, line)
			single = append(single, answer...)
		}
		if !slices.Equal(answers, single) || !same(after, d) {
			t.Fatalf("%+v, %q: %q, %+v; one after the other: %q, %+v", p.d, p.script, answers, after, single, d)
		}
		i := x.IntN(len(p.script) + 1)
		first, between := run(t, p.d, p.script[:i]...)
		second, end := run(t, between, p.script[i:]...)
		if !slices.Equal(answers, slices.Concat(first, second)) || !same(after, end) {
			t.Fatalf("%+v, %q: %q, %+v; in two parts: %q, %q, %+v", p.d, p.script, answers, after, first, second, end)
		}
	}
}

// questionsOf are lines that ask all of a counter.
func questionsOf(c api.Counter) []string {
	var list []string
	for _, s := range c.Slips {
		list = append(list, fmt.Sprint("lasts ", s.Id), fmt.Sprint("fee ", s.Id), fmt.Sprint("owes ", s.Guest), fmt.Sprint("held ", s.At), fmt.Sprint("missing ", s.At+c.Tariff.Lost), fmt.Sprint("where ", s.Umbrella, " ", s.At))
	}
	return append(list, "held 9999", "missing 9999")
}

// slipLine is the line that writes a slip down.
func slipLine(s api.Slip) string {
	if s.Kind == api.Returned {
		return fmt.Sprint("back ", s.Id, " ", s.Clerk, " ", s.At, " ", s.Umbrella)
	}
	return fmt.Sprint("lend ", s.Id, " ", s.Clerk, " ", s.At, " ", s.Umbrella, " ", s.Guest)
}

// counterLines are the lines that write the slips and voided Ids of a counter down.
func counterLines(c api.Counter) []string {
	var lines []string
	for _, s := range c.Slips {
		lines = append(lines, slipLine(s))
	}
	for _, id := range c.Voided {
		lines = append(lines, fmt.Sprint("void ", id))
	}
	return lines
}

// shuffled are lines in another order, some of them twice.
func (x random) shuffled(lines []string) []string {
	list := slices.Clone(lines)
	for _, l := range lines {
		if x.IntN(3) == 0 {
			list = append(list, l)
		}
	}
	x.Shuffle(len(list), func(i, k int) { list[i], list[k] = list[k], list[i] })
	return list
}

// without is a desk without the first slips and voided Ids of its counter.
func without(d api.Desk, slips, voided int) api.Desk {
	d.Counter.Slips, d.Counter.Voided = d.Counter.Slips[slips:], d.Counter.Voided[voided:]
	return d
}

func isAllOK(answers []string) bool {
	return !slices.ContainsFunc(answers, func(a string) bool { return a != "ok" })
}

func TestP12_4LateSlips(t *testing.T) {
	x := newRandom(4)
	met := map[string]int{}
	for _, name := range []string{"small", "many slips", "slow", "full"} {
		for range 150 {
			d := x.desk(sizes()[name])
			late := without(d, x.IntN(len(d.Counter.Slips)+1), x.IntN(len(d.Counter.Voided)+1))
			written := api.Counter{Slips: d.Counter.Slips[:len(d.Counter.Slips)-len(late.Counter.Slips)], Voided: d.Counter.Voided[:len(d.Counter.Voided)-len(late.Counter.Voided)]}
			_, want := run(t, d)
			said, _ := runAll(t, want, questionsOf(d.Counter))
			for range 3 {
				lines := x.shuffled(counterLines(written))
				answers, after := runAll(t, late, lines)
				if !isAllOK(answers) || !same(after, want) {
					t.Fatalf("%+v, %q: %q, %+v; want %+v", late, lines, answers, after, want)
				}
				if is, end := runAll(t, after, questionsOf(d.Counter)); !slices.Equal(is, said) || !same(end, want) {
					t.Fatalf("%+v, %q: %q; want %q", late, lines, is, said)
				}
				count(met, map[string]bool{"late": len(lines) > 0, "many": len(lines) > 12, "voided": len(written.Voided) > 0, "known": slices.ContainsFunc(said, func(s string) bool { return s != "none" && s != "no" })})
			}
		}
	}
	wantMet(t, met, 50, "late", "many", "voided", "known")
}

// askAll are questions that ask all of a desk, and some that are answered no.
func askAll(d api.Desk) []string {
	list := append(questionsOf(d.Counter), "most", "extra", "takes"+strings.Repeat(" 0", len(d.Shop.Wishes)), "takes 1 1", "owes 100", "fits 10 0 0", "where 0 10000")
	for i := range len(d.Shop.Wishes) + 1 {
		list = append(list, fmt.Sprint("can ", i))
	}
	for i, m := range d.Shop.Workshop.Makes {
		for k := range m.Slots {
			for j := range d.Shop.Workshop.Spares {
				list = append(list, fmt.Sprint("fits ", j, " ", i, " ", k))
			}
		}
	}
	best, _ := orders.Plan(d.Shop)
	for i := range best {
		best[i]++
	}
	return append(list, "takes"+behind(best))
}

func TestP12_5TrueAnswers(t *testing.T) {
	for _, p := range drawns(5, 30) {
		_, d := run(t, p.d, p.script...)
		m := newModel(d)
		for part := range slices.Chunk(askAll(d), api.MaxScript) {
			answers, after := run(t, d, part...)
			if !same(after, d) {
				t.Fatalf("%q: %+v became %+v", part, d, after)
			}
			for i, line := range part {
				if want := m.answer(line); answers[i] != want {
					t.Fatalf("%+v: %s: %s; want %s", d, line, answers[i], want)
				}
			}
		}
	}
}

func TestP12_6NoLiarIsKept(t *testing.T) {
	met := map[string]int{}
	for _, p := range drawns(6, 60) {
		_, d := run(t, p.d)
		for _, line := range p.script {
			answers, after := run(t, d, line)
			if isTrue(d.Shop.Workshop) && !isTrue(after.Shop.Workshop) {
				t.Fatalf("%+v: %s: %s, and there is no truth", d, line, answers[0])
			}
			if answers[0] != "ok" && !same(d, after) {
				t.Fatalf("%s: %s: %+v became %+v", line, answers[0], d, after)
			}
			count(met, map[string]bool{answers[0]: true, "a trial is kept": answers[0] == "ok" && strings.HasPrefix(line, "trial")})
			d = after
		}
	}
	wantMet(t, met, 100, "ok", "no", "liar", "none", "?", "a trial is kept")
}

func wishLine(w api.Wish) string {
	return fmt.Sprint("wish ", w.Size.Low, " ", w.Size.High, " ", w.Letter, " ", w.Due, " ", w.Price) + behind(w.Colors)
}

func pieceLine(p api.Piece) string {
	return fmt.Sprint("piece ", p.Color, " ", p.Size, " ", p.Letter, " ", p.Make) + behind(p.Broken)
}

func TestP12_7Dropped(t *testing.T) {
	x := newRandom(7)
	added := 0
	for _, p := range drawns(7, 60) {
		_, d := run(t, p.d)
		most, _ := run(t, d, "most", "extra")
		lines := []string{wishLine(x.wish()), fmt.Sprint("drop ", len(d.Shop.Wishes)), "most", "extra"}
		answers, after := run(t, d, lines...)
		if answers[0] != answers[1] || !same(d, after) || !slices.Equal(most, answers[2:]) {
			t.Fatalf("%q: %q; %+v became %+v", lines, answers, d, after)
		}
		if answers[0] == "ok" {
			added++
		}
	}
	if added < 100 {
		t.Errorf("%d wishes", added)
	}
}

func TestP12_8Replayed(t *testing.T) {
	left := 0
	for _, p := range drawns(8, 100) {
		answers, after := run(t, p.d, p.script...)
		var ok []string
		for i, line := range p.script {
			if answers[i] == "ok" {
				ok = append(ok, line)
			}
		}
		again, end := run(t, p.d, ok...)
		if !isAllOK(again) || !same(after, end) {
			t.Fatalf("%+v, %q: %+v; %q alone: %q, %+v", p.d, p.script, after, ok, again, end)
		}
		if len(ok) > 3 && len(ok)+3 < len(p.script) {
			left++
		}
	}
	if left < 100 {
		t.Errorf("%d scripts", left)
	}
}

func trialLine(t api.Trial) string {
	return fmt.Sprint("trial ", t.Spare, " ", t.Make, " ", t.Slot, " ", t.Fits)
}

func tableLines(table []api.Trial) []string {
	var lines []string
	for _, t := range table {
		lines = append(lines, trialLine(t))
	}
	return lines
}

// fitsOf is what is known of each spare and each slot.
func fitsOf(w api.Workshop) string {
	known := ""
	for i := range w.Spares {
		for k, m := range w.Makes {
			for j := range m.Slots {
				n, e := parts.Fits(w, i, k, j)
				known += fmt.Sprint(n, e, " ")
			}
		}
	}
	return known
}

func TestP0_14WrittenTrials(t *testing.T) {
	x := newRandom(14)
	met := map[string]int{}
	for _, name := range []string{"small", "many spares", "full"} {
		for range 200 {
			d := x.desk(sizes()[name])
			if !isTrue(d.Shop.Workshop) {
				continue
			}
			table := slices.Clone(d.Shop.Workshop.Table)
			blank := copied(d)
			blank.Shop.Workshop.Table = nil
			for i := range 2 {
				if i > 0 {
					x.Shuffle(len(table), func(i, k int) { table[i], table[k] = table[k], table[i] })
				}
				lines := tableLines(table)
				answers, after := run(t, blank, lines...)
				if w := after.Shop.Workshop; !isAllOK(answers) || !slices.Equal(w.Table, table) || fitsOf(w) != fitsOf(d.Shop.Workshop) {
					t.Fatalf("%+v: %q: %q, %+v", d.Shop.Workshop, lines, answers, w)
				}
			}
			count(met, map[string]bool{"rows": len(table) > 0, "many rows": len(table) > 20, "more is known": fitsOf(blank.Shop.Workshop) != fitsOf(d.Shop.Workshop)})
		}
	}
	wantMet(t, met, 50, "rows", "many rows", "more is known")
}

// hiresOf is what each hire and each guest costs, and with whom each umbrella is after some minutes.
func hiresOf(c api.Counter) string {
	is := ""
	minutes := []int{0, 9999}
	for _, s := range c.Slips {
		fee, e := hire.Fee(c, s.Id)
		owes, f := hire.Owes(c, s.Guest)
		is += fmt.Sprint(s.Id, fee, e, s.Guest, owes, f, " ")
		minutes = append(minutes, s.At, min(s.At+c.Clerks[s.Clerk].High, 9999))
	}
	slices.Sort(minutes)
	for _, minute := range slices.Compact(minutes) {
		for umbrella := range 10 {
			where, e := hire.Where(c, umbrella, minute)
			is += fmt.Sprint(minute, where, e, " ")
		}
	}
	return is
}

func TestP0_15WrittenSlips(t *testing.T) {
	x := newRandom(15)
	met := map[string]int{}
	for _, name := range []string{"small", "many slips", "slow", "full"} {
		for range 80 {
			d := x.desk(sizes()[name])
			c := d.Counter
			slices.SortFunc(c.Slips, func(a, b api.Slip) int { return a.Id - b.Id }) // the order is one of no matter
			c.Slips = slices.Compact(c.Slips)
			lines := x.shuffled(counterLines(c))
			answers, after := runAll(t, without(d, len(d.Counter.Slips), len(d.Counter.Voided)), lines)
			if !isAllOK(answers) || hiresOf(after.Counter) != hiresOf(c) {
				t.Fatalf("%+v: %q: %q, %+v", c, lines, answers, after.Counter)
			}
			_, e := hire.Owes(c, 0)
			count(met, map[string]bool{"slips": len(c.Slips) > 4, "voided": len(c.Voided) > 0, "a truth": e == api.OK, "no truth": e != api.OK})
		}
	}
	wantMet(t, met, 20, "slips", "voided", "a truth", "no truth")
}

// shopLines are the lines that write a shop down, whose workshop is there without its table.
func shopLines(s api.Shop) [][]string {
	lines := [][]string{tableLines(s.Workshop.Table), nil, nil, nil, nil}
	for spare, many := range s.Stock {
		lines[1] = append(lines[1], fmt.Sprint("stock ", spare, " ", many))
	}
	for _, p := range s.Pieces {
		lines[2] = append(lines[2], pieceLine(p))
	}
	for _, w := range s.Wishes {
		lines[3] = append(lines[3], wishLine(w))
	}
	for _, d := range s.Deliveries {
		lines[4] = append(lines[4], fmt.Sprint("comes ", d.Day, " ", d.Spare, " ", d.Many))
	}
	return lines
}

// mixed are all lines of some lists, those of each list in their order.
func (x random) mixed(lists [][]string) []string {
	var all []string
	lists = slices.Clone(lists)
	for many := len(slices.Concat(lists...)); many > 0; {
		if i := x.IntN(len(lists)); len(lists[i]) > 0 {
			all = append(all, lists[i][0])
			lists[i] = lists[i][1:]
			many--
		}
	}
	return all
}

func TestP0_16WrittenShop(t *testing.T) {
	x := newRandom(16)
	met := map[string]int{}
	for _, name := range []string{"small", "many spares", "slow", "full"} {
		for range 250 {
			d := x.desk(sizes()[name])
			if !isTrue(d.Shop.Workshop) {
				continue
			}
			blank := copied(d)
			s := &blank.Shop
			s.Workshop.Table, s.Stock, s.Pieces, s.Wishes, s.Deliveries = nil, make([]int, len(s.Stock)), nil, nil, nil
			lines := x.mixed(shopLines(d.Shop))
			answers, after := runAll(t, blank, lines)
			if !isAllOK(answers) || !same(after.Shop, d.Shop) {
				t.Fatalf("%+v: %q: %q, %+v", d.Shop, lines, answers, after.Shop)
			}
			most, e := orders.Most(d.Shop)
			extra, f := orders.Extra(d.Shop)
			n, g := orders.Most(after.Shop)
			m, h := orders.Extra(after.Shop)
			if n != most || g != e || m != extra || h != f {
				t.Fatalf("%+v: Most = %d, error %d, Extra = %d, error %d; written: %d, %d, %d, %d", d.Shop, most, e, extra, f, n, g, m, h)
			}
			count(met, map[string]bool{"something": most > 0, "extra": extra > 0, "no extra": f != api.OK, "many lines": len(lines) > api.MaxScript})
		}
	}
	wantMet(t, met, 20, "something", "extra", "no extra", "many lines")
}

// A desk that is valid is so after each line.
func TestValidAfterEachLine(t *testing.T) {
	for _, p := range drawns(17, 60) {
		_, d := run(t, p.d)
		for _, line := range p.script {
			if _, d = run(t, d, line); forewoman.Check(d) != api.OK {
				t.Fatalf("%+v: after %s: %+v", p.d, line, d)
			}
		}
	}
}
