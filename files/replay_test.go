package files_test

import (
	"fmt"
	"slices"
	"strings"
	"testing"

	"ferrule/api"
	"ferrule/files"
	"ferrule/forewoman"
	"ferrule/hire"
	"ferrule/orders"
)

func span(low, high int) api.Span { return api.Span{Low: low, High: high} }

// desk is D of the chapter 12, with a trial less, and two slips.
func desk() api.Desk {
	spare := func(kind, section, low, high int) api.Spare {
		return api.Spare{Kind: kind, Section: section, Length: span(low, high)}
	}
	return api.Desk{
		Shop: api.Shop{
			Workshop: api.Workshop{
				Spares: []api.Spare{spare(1, 2, 300, 310), spare(1, 3, 305, 305), spare(2, 1, 50, 60), spare(1, 2, 320, 330)},
				Makes: []api.Make{
					{Slots: []api.Slot{{Kind: 1, Sections: []int{2, 3}, Length: span(300, 306)}, {Kind: 2, Sections: []int{1}, Length: span(40, 58)}}},
					{Slots: []api.Slot{{Kind: 1, Sections: []int{2}, Length: span(310, 326)}}},
				},
				Cut: 5,
			},
			Stock:  []int{1, 0, 0, 0},
			Pieces: []api.Piece{{Color: 1, Size: 60, Broken: []int{0}}, {Color: 1, Size: 60, Letter: 7}, {Color: 2, Size: 65, Make: 1, Broken: []int{0}}, {Color: 2, Size: 60, Broken: []int{0, 1}}},
			Wishes: []api.Wish{
				{Colors: []int{1}, Size: span(55, 65), Letter: 7, Due: 3, Price: 500}, {Colors: []int{1, 2}, Size: span(60, 60), Due: 5, Price: 400},
				{Colors: []int{2}, Size: span(60, 70), Letter: 9, Due: 8, Price: 700}, {Colors: []int{2}, Size: span(65, 65), Due: 5, Price: 300},
			},
			Deliveries: []api.Delivery{{Day: 4, Spare: 2, Many: 1}, {Day: 6, Spare: 3, Many: 1}},
			Carve:      2,
		},
		Counter: api.Counter{
			Clerks: []api.Span{{}, span(-2, 1)},
			Slips:  []api.Slip{{Id: 1, At: 100, Kind: api.Lent, Umbrella: 3, Guest: 7}, {Id: 2, Clerk: 1, At: 160, Kind: api.Returned, Umbrella: 3}},
			Tariff: api.Tariff{Free: 10, Unit: 30, Price: 100, Most: 500, Lost: 1000, Value: 2000, Pledge: 300},
		},
	}
}

// same tells whether values are equal, with empty lists that are as none.
func same(a, b any) bool { return fmt.Sprintf("%+v", a) == fmt.Sprintf("%+v", b) }

func TestP14_5Replay(t *testing.T) {
	script := []string{"fee 1", "lend 3 0 200 3 8", "where 3 200", "trial 0 1 0 0", "fits 0 1 0", "trial 1 0 0 0", "most", "stock 0 1", "extra", "takes 2 1 3 0", "drop 3", "extra", "fee 01", "void 2", "held 300", "", " "}
	want := []string{"200 200", "ok", "8", "ok", "never", "liar", "1600", "ok", "1", "1600", "ok", "0", "?", "ok", "none", "?", "?"}
	after := desk()
	after.Counter.Slips = append(after.Counter.Slips, api.Slip{Id: 3, At: 200, Kind: api.Lent, Umbrella: 3, Guest: 8})
	after.Counter.Voided = []int{2}
	after.Shop.Workshop.Table = []api.Trial{{Spare: 0, Make: 1, Slot: 0, Fits: 0}}
	after.Shop.Stock[0] = 2
	after.Shop.Wishes = after.Shop.Wishes[:3]
	file := write(t, script...)
	for _, now := range []string{file, put(file, 0, 'x'), put(file, 3, '~', len(file)-3, '~'), put(file, len(file)-5, '~')} {
		if answers, d, e := files.Replay(desk(), now); !slices.Equal(answers, want) || !same(d, after) || e != api.OK {
			t.Errorf("Replay of %q = %q, %+v, error %d", now, answers, d, e)
		}
	}
	if answers, d, e := files.Replay(desk(), ""); len(answers) > 0 || !same(d, desk()) || e != api.OK {
		t.Errorf("Replay of nothing = %q, %+v, error %d", answers, d, e)
	}
}

// A desk that is not valid comes behind all that is wrong with a file.
func TestP14_5Errors(t *testing.T) {
	invalid := desk()
	invalid.Shop.Carve = -1
	for _, d := range []api.Desk{{}, invalid} {
		for file, want := range map[string]api.Errno{
			"": api.ErrDesk, fileX: api.ErrDesk, put(fileX, 2, 'x'): api.ErrDesk, write(t, make([]string, 40)...): api.ErrDesk,
			fileX + "\n": api.ErrText, broken: api.ErrBlock, fileX + fileX: api.ErrForm,
		} {
			if answers, after, e := files.Replay(d, file); e != want || len(answers) > 0 || !same(after, api.Desk{}) {
				t.Errorf("Replay of %q = %q, %+v, error %d", file, answers, after, e)
			}
		}
	}
}

// shop draws a small shop, with spares that fit most slots.
func (x random) shop() api.Shop {
	s := api.Shop{Carve: x.IntN(3)}
	for range x.from(1, 4) {
		low := x.from(5, 8)
		s.Workshop.Spares = append(s.Workshop.Spares, api.Spare{Section: x.IntN(2), Length: span(low, low+x.IntN(3))})
		s.Stock = append(s.Stock, x.IntN(3))
	}
	for range x.from(1, 2) {
		var m api.Make
		for range x.from(1, 3) {
			low := x.from(4, 6)
			m.Slots = append(m.Slots, api.Slot{Sections: []int{0, 1}[x.IntN(2):], Length: span(low, low+x.IntN(6))})
		}
		s.Workshop.Makes = append(s.Workshop.Makes, m)
	}
	for range x.from(0, 5) {
		p := api.Piece{Color: x.IntN(2), Size: x.IntN(3), Letter: x.IntN(2), Make: x.IntN(len(s.Workshop.Makes))}
		for slot := range s.Workshop.Makes[p.Make].Slots {
			if x.IntN(3) == 0 {
				p.Broken = append(p.Broken, slot)
			}
		}
		s.Pieces = append(s.Pieces, p)
	}
	for range x.from(0, 4) {
		s.Wishes = append(s.Wishes, api.Wish{Colors: []int{0, 1}[x.IntN(2):], Size: span(x.IntN(2), 2), Letter: x.IntN(2), Due: x.IntN(6), Price: x.from(1, 9)})
	}
	for range x.from(0, 3) {
		s.Deliveries = append(s.Deliveries, api.Delivery{Day: x.IntN(5), Spare: x.IntN(len(s.Stock)), Many: x.from(1, 2)})
	}
	return s
}

// counter draws a counter with slips whose umbrellas go out and come back by turns, most of them.
func (x random) counter() api.Counter {
	c := api.Counter{Tariff: api.Tariff{Free: x.IntN(6), Unit: x.from(1, 9), Price: x.IntN(9), Most: x.IntN(40), Lost: x.from(1, 60), Value: x.IntN(90), Pledge: x.IntN(9)}}
	for range x.from(1, 2) {
		low := x.from(-4, 4)
		c.Clerks = append(c.Clerks, span(low, x.from(low, 4)))
	}
	ids := x.Perm(100)
	var isOut [3]bool
	at := 5
	for i := range x.from(0, api.MaxSlips) {
		s := api.Slip{Id: ids[i], Clerk: x.IntN(len(c.Clerks)), At: at, Kind: api.Lent, Umbrella: x.IntN(3), Guest: x.IntN(3)}
		if isOut[s.Umbrella] {
			s.Kind, s.Guest = api.Returned, 0
		}
		isOut[s.Umbrella] = !isOut[s.Umbrella]
		c.Slips = append(c.Slips, s)
		at += x.IntN(12)
	}
	for range max(0, x.IntN(6)-3) {
		c.Voided = append(c.Voided, x.IntN(100))
	}
	if len(c.Slips) > 1 && x.IntN(3) == 0 { // the last umbrella that went out, or came back
		c.Voided = append(c.Voided, c.Slips[len(c.Slips)-1].Id)
	}
	return c
}

// behind are numbers, each behind a blank.
func behind(numbers ...int) string {
	line := ""
	for _, n := range numbers {
		line += fmt.Sprint(" ", n)
	}
	return line
}

// slipLines are the lines that write the slips and voided Ids of a counter down.
func slipLines(c api.Counter) []string {
	var lines []string
	for _, s := range c.Slips {
		if s.Kind == api.Lent {
			lines = append(lines, "lend"+behind(s.Id, s.Clerk, s.At, s.Umbrella, s.Guest))
		} else {
			lines = append(lines, "back"+behind(s.Id, s.Clerk, s.At, s.Umbrella))
		}
	}
	for _, id := range c.Voided {
		lines = append(lines, "void"+behind(id))
	}
	return lines
}

// shopLines are the lines that write a shop down, whose workshop is there.
func shopLines(s api.Shop) []string {
	var lines []string
	for spare, many := range s.Stock {
		lines = append(lines, "stock"+behind(spare, many))
	}
	for _, p := range s.Pieces {
		lines = append(lines, "piece"+behind(p.Color, p.Size, p.Letter, p.Make)+behind(p.Broken...))
	}
	for _, w := range s.Wishes {
		lines = append(lines, "wish"+behind(w.Size.Low, w.Size.High, w.Letter, w.Due, w.Price)+behind(w.Colors...))
	}
	for _, d := range s.Deliveries {
		lines = append(lines, "comes"+behind(d.Day, d.Spare, d.Many))
	}
	return lines
}

// said draws a line that says or asks anything, or nothing.
func (x random) said() string {
	kinds := []struct {
		word string
		most []int // the greatest numbers behind the word
	}{
		{"lend", []int{99, 1, 60, 3, 3}}, {"back", []int{99, 1, 60, 3}}, {"void", []int{99}}, {"owes", []int{4}}, {"held", []int{60}}, {"where", []int{3, 60}}, {"missing", []int{90}},
		{"trial", []int{3, 1, 1, 1}}, {"fits", []int{3, 1, 1}}, {"stock", []int{3, 2}}, {"comes", []int{5, 3, 2}}, {"piece", []int{1, 2, 1, 1, 1}}, {"wish", []int{1, 2, 1, 5, 9, 1}},
		{"drop", []int{4}}, {"can", []int{4}}, {"takes", []int{4, 4}}, {"most", nil}, {"extra", nil}, {"fee", []int{99}}, {"what", []int{9}},
	}
	if x.IntN(9) == 0 {
		return x.bytes(x.from(0, 60))
	}
	kind := kinds[x.IntN(len(kinds))]
	line := kind.word
	for _, most := range kind.most {
		line += behind(x.from(0, most))
	}
	return line
}

func TestP14_11Replayed(t *testing.T) {
	x := newRandom(20)
	met := map[string]int{}
	for range 1500 {
		d := api.Desk{Shop: x.shop(), Counter: x.counter()}
		var script []string
		for range x.from(0, api.MaxTexts) {
			script = append(script, x.said())
		}
		want, end, e := forewoman.Run(d, script)
		if e != api.OK {
			t.Fatalf("Run of %+v, %q: error %d", d, script, e)
		}
		file := write(t, script...)
		now, hit := x.hit(file, 0, 1)
		for _, f := range []string{file, now} {
			if answers, after, e := files.Replay(d, f); !slices.Equal(answers, want) || !same(after, end) || e != api.OK {
				t.Fatalf("%+v: Replay of %q = %q, %+v, error %d; want %q, %+v", d, f, answers, after, e, want, end)
			}
		}
		count(met, map[string]bool{"ok": slices.Contains(want, "ok"), "liar": slices.Contains(want, "liar"), "no": slices.Contains(want, "no"), "?": slices.Contains(want, "?"), "damaged": len(hit) > 0, "whole": len(hit) == 0})
	}
	wantMet(t, met, 50, "ok", "liar", "no", "?", "damaged", "whole")
}

// feesOf are the fees of all hires of a counter, and what its guests owe.
func feesOf(c api.Counter) string {
	is := ""
	for id := range 100 {
		fee, e := hire.Fee(c, id)
		owes, f := hire.Owes(c, id)
		is += fmt.Sprint(id, fee, e, owes, f, " ")
	}
	return is
}

func TestP0_17DamagedSlips(t *testing.T) {
	x := newRandom(21)
	met := map[string]int{}
	for range 600 {
		d := api.Desk{Shop: x.shop(), Counter: x.counter()}
		blank := d
		blank.Counter.Slips, blank.Counter.Voided = nil, nil
		lines := slipLines(d.Counter)
		x.Shuffle(len(lines), func(i, k int) { lines[i], lines[k] = lines[k], lines[i] })
		file := write(t, lines...)
		fees := feesOf(d.Counter)
		for least := range 2 {
			now, hit := x.hit(file, least, 1)
			answers, after, e := files.Replay(blank, now)
			if e != api.OK || slices.ContainsFunc(answers, func(a string) bool { return a != "ok" }) || feesOf(after.Counter) != fees {
				t.Fatalf("%+v: Replay of %q = %q, %+v, error %d", blank, now, answers, after.Counter, e)
			}
			_, f := hire.Owes(d.Counter, 0)
			count(met, map[string]bool{"damaged": len(hit) > 0, "two blocks": len(hit) == 2, "whole": len(hit) == 0, "a truth": f == api.OK, "no truth": f != api.OK, "fees": strings.Count(fees, "{0 0}") < 200})
		}
	}
	wantMet(t, met, 50, "damaged", "two blocks", "whole", "a truth", "no truth", "fees")
}

func TestP0_18ThePlanInTheFile(t *testing.T) {
	x := newRandom(22)
	met := map[string]int{}
	for range 800 {
		d := api.Desk{Shop: x.shop(), Counter: x.counter()}
		plan, e := orders.Plan(d.Shop)
		most, f := orders.Most(d.Shop)
		if e != api.OK || f != api.OK {
			t.Fatalf("%+v: Plan: error %d, Most: error %d", d.Shop, e, f)
		}
		for i := range plan {
			plan[i]++
		}
		blank := d
		blank.Shop.Stock, blank.Shop.Pieces, blank.Shop.Wishes, blank.Shop.Deliveries = make([]int, len(d.Shop.Stock)), nil, nil, nil
		takes := "takes" + behind(plan...)
		for _, written := range []struct {
			d     api.Desk
			lines []string
		}{{d, []string{takes}}, {d, []string{"most", "extra", takes}}, {blank, append(shopLines(d.Shop), takes)}} { // the shop is there, or in the file too
			now, hit := x.hit(write(t, written.lines...), 0, 1)
			answers, _, e := files.Replay(written.d, now)
			if e != api.OK || answers[len(answers)-1] != fmt.Sprint(most) {
				t.Fatalf("%+v: Replay of %q = %q, error %d; want %d", written.d, now, answers, e, most)
			}
			count(met, map[string]bool{"damaged": len(hit) > 0, "blocks": len(hit) > 1, "something": most > 0, "much": most > 9, "whole": len(hit) == 0})
		}
	}
	wantMet(t, met, 100, "damaged", "blocks", "something", "much", "whole")
}
