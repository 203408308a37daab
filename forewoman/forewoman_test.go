package forewoman_test

import (
	"fmt"
	"slices"
	"strconv"
	"strings"
	"testing"

	"ferrule/api"
	"ferrule/forewoman"
)

func span(low, high int) api.Span { return api.Span{Low: low, High: high} }

func spare(kind, section, low, high int) api.Spare {
	return api.Spare{Kind: kind, Section: section, Length: span(low, high)}
}

func slot(kind, low, high int, sections ...int) api.Slot {
	return api.Slot{Kind: kind, Sections: sections, Length: span(low, high)}
}

func maker(slots ...api.Slot) api.Make { return api.Make{Slots: slots} }

func trial(spare, maker, slot, fits int) api.Trial {
	return api.Trial{Spare: spare, Make: maker, Slot: slot, Fits: fits}
}

func piece(color, size, letter, maker int, broken ...int) api.Piece {
	return api.Piece{Color: color, Size: size, Letter: letter, Make: maker, Broken: broken}
}

func wish(low, high, letter, due, price int, colors ...int) api.Wish {
	return api.Wish{Colors: colors, Size: span(low, high), Letter: letter, Due: due, Price: price}
}

func delivery(day, spare, many int) api.Delivery {
	return api.Delivery{Day: day, Spare: spare, Many: many}
}

func lent(id, clerk, at, umbrella, guest int) api.Slip {
	return api.Slip{Id: id, Clerk: clerk, At: at, Kind: api.Lent, Umbrella: umbrella, Guest: guest}
}

func back(id, clerk, at, umbrella int) api.Slip {
	return api.Slip{Id: id, Clerk: clerk, At: at, Kind: api.Returned, Umbrella: umbrella}
}

// shopX is the shop X of the chapter 8.
func shopX() api.Shop {
	return api.Shop{
		Workshop: api.Workshop{
			Spares: []api.Spare{spare(1, 2, 300, 310), spare(1, 3, 305, 305), spare(2, 1, 50, 60), spare(1, 2, 320, 330)},
			Makes:  []api.Make{maker(slot(1, 300, 306, 2, 3), slot(2, 40, 58, 1)), maker(slot(1, 310, 326, 2))},
			Cut:    5, Table: []api.Trial{trial(0, 1, 0, 0)},
		},
		Stock:  []int{1, 0, 0, 0},
		Pieces: []api.Piece{piece(1, 60, 0, 0, 0), piece(1, 60, 7, 0), piece(2, 65, 0, 1, 0), piece(2, 60, 0, 0, 0, 1)},
		Wishes: []api.Wish{
			wish(55, 65, 7, 3, 500, 1), wish(60, 60, 0, 5, 400, 1, 2), wish(60, 70, 9, 8, 700, 2), wish(65, 65, 0, 5, 300, 2),
		},
		Deliveries: []api.Delivery{delivery(4, 2, 1), delivery(6, 3, 1)},
		Carve:      2,
	}
}

// deskD is D of the chapter's examples, with something else in it.
func deskD(changes ...func(d *api.Desk)) api.Desk {
	d := api.Desk{Shop: shopX(), Counter: api.Counter{
		Clerks: []api.Span{{}},
		Tariff: api.Tariff{Free: 10, Unit: 30, Price: 100, Most: 500, Lost: 1000, Value: 2000, Pledge: 300},
	}}
	for _, change := range changes {
		change(&d)
	}
	return d
}

// run is what Run returns of a desk and a script that are valid.
func run(t *testing.T, d api.Desk, script ...string) ([]string, api.Desk) {
	t.Helper()
	answers, after, e := forewoman.Run(d, script)
	if e != api.OK || len(answers) != len(script) {
		t.Fatalf("Run of %v, %q = %q, error %d", d, script, answers, e)
	}
	return answers, after
}

// same tells whether desks are equal, with empty lists that are as none.
func same(a, b any) bool { return fmt.Sprintf("%+v", a) == fmt.Sprintf("%+v", b) }

// wantAnswers wants these answers to lines, each of which has its answer behind
// a >, and returns the desk after the last one.
func wantAnswers(t *testing.T, d api.Desk, lines ...string) api.Desk {
	t.Helper()
	for len(lines) > api.MaxScript {
		d = wantAnswers(t, d, lines[:api.MaxScript]...)
		lines = lines[api.MaxScript:]
	}
	var script, want []string
	for _, l := range lines {
		i := strings.LastIndex(l, ">")
		script, want = append(script, l[:i]), append(want, l[i+1:])
	}
	answers, after := run(t, d, script...)
	for i := range script {
		if answers[i] != want[i] {
			t.Errorf("%d: %q: %q; want %q", i, script[i], answers[i], want[i])
		}
	}
	return after
}

// wantKept wants these answers, and that the desk stays as it is.
func wantKept(t *testing.T, d api.Desk, lines ...string) {
	t.Helper()
	_, before := run(t, d)
	if after := wantAnswers(t, d, lines...); !same(before, after) {
		t.Errorf("%q: %+v became %+v", lines, before, after)
	}
}

// wantDesk wants these answers, and that the desk becomes another one.
func wantDesk(t *testing.T, d, want api.Desk, lines ...string) {
	t.Helper()
	if after := wantAnswers(t, d, lines...); !same(after, want) {
		t.Errorf("%q: %+v; want %+v", lines, after, want)
	}
}

func TestExamples(t *testing.T) {
	d := wantAnswers(t, deskD(),
		"lend 1 0 100 3 7>ok", "where 3 100>7", "back 2 0 171 3>ok", "fee 1>300 300", "owes 7>300 300", "where 3 171>shop", "held 150>300 300",
		"lend 1 0 100 4 7>no", "fits 0 1 0>never", "trial 1 0 0 0>liar", "most>1600", "stock 0 1>ok", "extra>1", "can 3>none", "takes 2 1 3 0>1600",
		"drop 3>ok", "extra>0", "missing 9>none / none", "fee 01>?",
	)
	want := deskD(func(d *api.Desk) {
		d.Counter.Slips = []api.Slip{lent(1, 0, 100, 3, 7), back(2, 0, 171, 3)}
		d.Shop.Stock[0], d.Shop.Wishes = 2, d.Shop.Wishes[:3]
	})
	if !same(d, want) {
		t.Errorf("%+v; want %+v", d, want)
	}
	// the example of DOC.md
	wantAnswers(t, deskD(), "lend 1 0 100 3 7>ok", "back 2 0 171 3>ok", "fee 1>300 300")
}

// words are lines that can be said of the desk D, one of each word.
func words() []string {
	return []string{
		"lend 1 0 100 3 7", "back 2 0 171 3", "void 1", "lasts 1", "fee 1", "owes 7", "held 150", "where 3 100", "missing 9",
		"trial 0 0 0 1", "fits 0 1 0", "stock 0 1", "comes 5 3 1", "piece 1 60 0 1", "wish 55 65 7 3 500 1", "drop 3", "can 0", "takes 2 1 3 0", "most", "extra",
	}
}

// hasAny tells of which words any number of numbers may follow, but not fewer than they need.
func hasAny(word string) bool { return word == "piece" || word == "wish" || word == "takes" }

// unclears are lines of one that is none.
func unclears(line string) []string {
	word, numbers, _ := strings.Cut(line, " ")
	all := []string{
		" " + line, line + " ", strings.ToUpper(line), strings.ToUpper(line[:1]) + line[1:], "\t" + line, line + "\n", line + "\x00", word + "s " + numbers, line[1:],
		strings.Replace(line, word, "", 1), "no " + line, word + "," + numbers, line + " a", line + " -1", line + " +1", line + " 01", line + " 1000000",
		line + "  1", line + " 1 ", line + " 1\n", line + "\n1", word + "  " + numbers,
	}
	if numbers != "" {
		all = append(all, word+numbers, strings.ReplaceAll(line, " ", "  "), strings.ReplaceAll(line, " ", "\t"), strings.ReplaceAll(line, " ", "\u00a0"))
	}
	if !hasAny(word) {
		all = append(all, line+" 1", line+" 0", line+" 1 1", line+strings.Repeat(" 1", 1000))
	}
	return all
}

// A line that is not said as the chapter says is answered ?, and changes nothing.
func TestP12_2UnclearLines(t *testing.T) {
	for _, l := range []string{"", " ", "  ", "?", ">", "ok", "0", "1 2", "most most", "lendl", "none", "MOST", "mosT", "most\n", "most\r", "most ", "mos", "extra 0", "\x00", "\xff", "möst", "lend back"} {
		wantKept(t, deskD(), l+">?")
	}
	for _, line := range words() {
		for _, l := range unclears(line) {
			wantKept(t, deskD(), l+">?")
		}
	}
	// these need at least so many numbers
	for _, l := range []string{"piece", "piece 1", "piece 1 60 0", "wish", "wish 1", "wish 55 65 7 3", "lend 1 0 100 3", "back 1 0 100", "void", "where 3", "trial 0 0 0", "fits 0 1", "stock 0", "comes 5 3"} {
		wantKept(t, deskD(), l+">?")
	}
}

// A word that is no number is answered ?, at each place and even if the numbers are not valid either.
func TestP12_2Numbers(t *testing.T) {
	for _, no := range []string{
		"", "00", "01", "007", "+1", "-1", "-0", "+0", "1.0", "1.", "1e3", "0x1", "0b1", "0o7", "1_0", "1,0", "1000000", "0000001", "000000", "9999999", "10000000000000000000000", "18446744073709551617",
		"a", "1a", "a1", "\u0661", "\uff11", "\u00b2", "1\t", "\n1", "1\x00", "\xff", "none", "shop",
	} {
		for _, line := range words() {
			fields := strings.Split(line, " ")
			for i := 1; i < len(fields); i++ {
				l := slices.Clone(fields)
				l[i] = no
				wantKept(t, deskD(), strings.Join(l, " ")+">?")
			}
		}
		wantKept(t, deskD(), "owes 100000 "+no+">?", "void 999999 "+no+">?", "takes 9 9 "+no+">?", "piece 999 60 0 0 "+no+">?")
	}
	wantKept(t, deskD(), "owes 0>0 0", "owes 99>0 0", "owes 100>no", "owes 99999>no", "owes 100000>no", "owes 999999>no", "owes 1000000>?", "held 10>0 0", "where 0 0>shop", "takes 0 0 0 0>0", "takes 999999 0 0 0>no")
}

func TestP12_2LendAndBack(t *testing.T) {
	d := deskD()
	want := deskD(func(d *api.Desk) {
		d.Counter.Slips = []api.Slip{lent(0, 0, 0, 0, 0), lent(1, 0, 100, 3, 7), back(2, 0, 171, 3), lent(99, 0, 9999, 9, 99)}
	})
	wantDesk(t, d, want, "back 2 0 171 3>ok", "lend 99 0 9999 9 99>ok", "lend 1 0 100 3 7>ok", "lend 0 0 0 0 0>ok")
	// twice, and ones that clash
	wantKept(t, want, "lend 1 0 100 3 7>ok", "back 2 0 171 3>ok", "lend 99 0 9999 9 99>ok",
		"lend 1 0 101 3 7>no", "lend 1 0 100 4 7>no", "lend 1 0 100 3 8>no", "back 1 0 100 3>no", "lend 2 0 171 3 0>no", "back 2 0 172 3>no", "back 2 0 171 4>no")
	// what is not valid
	wantKept(t, want,
		"lend 100 0 100 3 7>no", "lend 3 1 100 3 7>no", "lend 3 0 10000 3 7>no", "lend 3 0 100 10 7>no", "lend 3 0 100 3 100>no",
		"back 100 0 100 3>no", "back 3 1 100 3>no", "back 3 0 10000 3>no", "back 3 0 100 10>no", "lend 999999 999999 999999 999999 999999>no")
	wantKept(t, deskD(func(d *api.Desk) { d.Counter.Clerks = nil }), "lend 1 0 100 3 7>no", "back 1 0 100 3>no")
	// each number stands at its place
	clerks := func(d *api.Desk) { d.Counter.Clerks = make([]api.Span, 3) }
	want = deskD(clerks, func(d *api.Desk) { d.Counter.Slips = []api.Slip{lent(5, 2, 4, 3, 1), back(6, 1, 9, 3)} })
	wantDesk(t, deskD(clerks), want, "lend 5 2 4 3 1>ok", "back 6 1 9 3>ok")
}

// A slip is kept also where it leaves no truth, as Merge looks for none.
func TestP12_2SlipsWithoutTruth(t *testing.T) {
	wantAnswers(t, deskD(),
		"lend 1 0 100 3 7>ok", "owes 7>0 0", "lend 2 0 100 3 8>ok", "owes 7>none", "owes 100>no", "lasts 1>none", "fee 1>none", "held 9>none", "where 3 100>none", "where 4 1>none", "missing 9>none",
		"lend 1 0 101 3 7>no", "lend 4 0 200 4 9>ok", "owes 9>none", "void 2>ok", "owes 7>0 0", "back 5 0 99 3>ok", "owes 7>none", "void 5>ok", "where 3 100>7")
}

func TestP12_2ManySlips(t *testing.T) {
	var lines []string
	for i := range api.MaxSlips {
		lines = append(lines, "lend "+strconv.Itoa(50-i)+" 0 "+strconv.Itoa(i)+" "+strconv.Itoa(i%10)+" 7>ok", "void "+strconv.Itoa(99-i)+">ok")
	}
	d := wantAnswers(t, deskD(), lines...)
	if len(d.Counter.Slips) != 12 || d.Counter.Slips[0].Id != 39 || d.Counter.Slips[11].Id != 50 || len(d.Counter.Voided) != 12 || d.Counter.Voided[0] != 88 || d.Counter.Voided[11] != 99 {
		t.Errorf("%+v", d.Counter)
	}
	wantKept(t, d, "lend 51 0 1 1 1>no", "back 0 0 1 1>no", "void 1>no", "void 50>no", "void 100>no", "lend 50 0 0 0 7>ok", "lend 50 0 0 0 8>no", "void 88>ok", "void 99>ok")
}

func TestP12_2Void(t *testing.T) {
	want := deskD(func(d *api.Desk) { d.Counter.Voided = []int{0, 5, 99} })
	wantDesk(t, deskD(), want, "void 99>ok", "void 5>ok", "void 0>ok", "void 5>ok", "void 100>no", "void 999999>no")
	// also before the slip comes, and what is void still clashes
	wantAnswers(t, deskD(), "void 1>ok", "lasts 1>no", "lend 1 0 100 3 7>ok", "lasts 1>no", "where 3 100>shop", "held 100>0 0", "lend 1 0 100 3 8>no", "back 1 0 100 3>no",
		"lend 2 0 100 3 8>ok", "where 3 100>8", "void 2>ok", "where 3 100>shop")
}

// hired is a counter whose second clerk has a watch that is wrong, C of the chapter 9.
func hired(d *api.Desk) {
	d.Counter = api.Counter{
		Clerks: []api.Span{{}, span(-2, 1)},
		Slips:  []api.Slip{lent(1, 0, 100, 3, 7), back(2, 1, 160, 3), lent(3, 0, 161, 3, 8), back(4, 1, 393, 3), lent(5, 0, 120, 4, 7)},
		Closed: []api.Span{span(200, 299)},
		Tariff: api.Tariff{Free: 10, Unit: 30, Price: 50, Most: 400, Lost: 500, Value: 1500, Pledge: 1000},
	}
}

func TestP12_2Hires(t *testing.T) {
	wantKept(t, deskD(hired),
		"lasts 1>58 60", "lasts 3>130 132", "lasts 5>none", "lasts 2>no", "lasts 4>no", "lasts 6>no", "lasts 0>no", "lasts 999999>no",
		"fee 1>100 100", "fee 3>200 250", "fee 5>none", "fee 2>no", "fee 9>no",
		"owes 7>100 100", "owes 8>200 250", "owes 9>0 0", "owes 99>0 0", "owes 100>no",
		"held 0>0 0", "held 159>1000 2000", "held 170>2000 2000", "held 9999>1000 1000", "held 10000>no")
	wantKept(t, deskD(hired), "where 3 99>shop", "where 3 159>shop 7", "where 3 161>8", "where 3 392>shop 8", "where 4 9999>7", "where 5 0>shop", "where 9 1>shop", "where 10 0>no", "where 3 10000>no",
		"missing 719>none / none", "missing 720>4 / 4", "missing 9999>4 / 4", "missing 10000>no")
	wantAnswers(t, deskD(hired), "void 3>ok", "lasts 3>no", "void 4>ok", "owes 8>0 0", "void 5>ok", "missing 9999>none / none", "void 2>ok", "missing 9999>3 / 3", "lend 6 0 0 0 0>ok", "where 0 5>0", "missing 9999>0 3 / 0 3", "held 9999>2000 2000")
}

// Who has an umbrella can be more than two, and what is missing can be so surely, perhaps or both.
func TestP12_2Lists(t *testing.T) {
	d := deskD(func(d *api.Desk) {
		d.Counter.Clerks = []api.Span{{}, span(0, 20)}
		d.Counter.Tariff.Lost = 100
		d.Counter.Slips = []api.Slip{lent(1, 0, 10, 3, 7), back(2, 1, 11, 3), lent(3, 1, 15, 3, 8), lent(4, 1, 0, 5, 9), lent(5, 0, 0, 0, 0), back(6, 1, 7, 6)}
		d.Counter.Voided = []int{6}
	})
	wantKept(t, d, "where 3 20>shop 7 8", "where 3 10>7", "where 5 1>shop 9", "missing 100>0 / 0 5", "missing 99>none / none", "missing 114>0 / 0 5", "missing 115>0 / 0 3 5", "missing 119>0 / 0 3 5", "missing 120>0 5 / 0 3 5", "missing 9999>0 3 5 / 0 3 5", "held 20>600 900")
	wantAnswers(t, d, "void 5>ok", "missing 100>none / 5", "missing 119>none / 3 5", "missing 99>none / none")
}

func TestP12_2Trial(t *testing.T) {
	d := deskD()
	want := deskD(func(d *api.Desk) {
		d.Shop.Workshop.Table = []api.Trial{trial(0, 1, 0, 0), trial(3, 1, 0, 1), trial(0, 0, 0, 1), trial(1, 1, 0, 0), trial(3, 1, 0, 1)}
	})
	wantDesk(t, d, want, "trial 3 1 0 1>ok", "trial 0 0 0 1>ok", "trial 1 1 0 0>ok", "trial 3 1 0 1>ok")
	// invalid ones, ones that clash, and ones that cannot be
	wantKept(t, want,
		"trial 4 0 0 1>no", "trial 0 2 0 1>no", "trial 0 0 2 1>no", "trial 0 1 1 1>no", "trial 0 0 0 2>no", "trial 999999 0 0 0>no", "trial 0 999999 0 0>no", "trial 0 0 999999 0>no", "trial 0 0 0 999999>no",
		"trial 0 1 0 1>no", "trial 3 1 0 0>no", "trial 0 0 0 0>no", "trial 1 1 0 1>no",
		"trial 1 0 0 0>liar", "trial 2 0 0 1>liar", "trial 3 0 1 1>liar", "trial 2 1 0 1>liar", "trial 1 0 1 1>liar", "fits 1 0 0>surely")
	// what is known of another spare does not count
	wantAnswers(t, deskD(func(d *api.Desk) { d.Shop.Workshop.Table = nil }),
		"fits 0 1 0>perhaps", "fits 0 0 0>surely", "trial 0 1 0 1>ok", "fits 0 1 0>surely", "trial 0 1 0 0>no", "trial 0 0 0 0>liar", "trial 0 0 0 1>ok")
}

// With as many rows as can be, no more is written down, not even one that is there.
func TestP12_2ManyTrials(t *testing.T) {
	d := deskD(func(d *api.Desk) {
		d.Shop.Workshop.Table = slices.Repeat(d.Shop.Workshop.Table, api.MaxTrials-1)
	})
	d = wantAnswers(t, d, "trial 1 0 0 0>liar", "trial 3 1 0 1>ok", "trial 0 1 0 0>no", "trial 3 1 0 1>no", "trial 1 0 0 0>no")
	if table := d.Shop.Workshop.Table; len(table) != api.MaxTrials || table[29] != trial(3, 1, 0, 1) {
		t.Errorf("%v", table)
	}
}

// lost is a change with which the workshop of D has no truth.
func lost(d *api.Desk) { d.Shop.Workshop.Table = append(d.Shop.Workshop.Table, trial(1, 0, 0, 0)) }

// Of a workshop without a truth nothing is known, and each trial is a lie; but all that does not ask for it is done.
func TestP12_2NoTruthOfTheWorkshop(t *testing.T) {
	wantKept(t, deskD(lost), "fits 1 0 0>none", "fits 2 0 1>none", "fits 9 0 0>no", "fits 0 2 0>no", "fits 0 0 2>no", "can 0>none", "can 4>no", "takes 0 0 0 0>none", "takes 0>no", "most>none", "extra>none",
		"trial 0 1 0 0>liar", "trial 3 1 0 1>liar", "trial 0 1 0 1>no", "trial 1 0 0 1>no", "trial 9 0 0 0>no")
	d := wantAnswers(t, deskD(lost), "stock 0 1>ok", "comes 5 3 1>ok", "piece 1 60 0 1>ok", "wish 55 65 7 3 500 1>ok", "drop 0>ok", "lend 1 0 100 3 7>ok", "where 3 100>7", "most>none")
	if s := d.Shop; len(s.Pieces) != 5 || len(s.Wishes) != 4 || len(s.Deliveries) != 3 || s.Stock[0] != 2 || len(s.Workshop.Table) != 2 {
		t.Errorf("%+v", s)
	}
}

func TestP12_2Fits(t *testing.T) {
	wantKept(t, deskD(), "fits 0 0 0>surely", "fits 0 1 0>never", "fits 3 1 0>surely", "fits 2 0 1>surely", "fits 2 1 0>never", "fits 1 1 0>never", "fits 4 0 0>no", "fits 0 2 0>no", "fits 0 0 2>no", "fits 0 1 1>no", "fits 999999 0 0>no", "fits 0 999999 0>no", "fits 0 0 999999>no")
	wantKept(t, deskD(func(d *api.Desk) { d.Shop.Workshop.Table = nil }), "fits 0 1 0>perhaps")
}

func TestP12_2Stock(t *testing.T) {
	want := deskD(func(d *api.Desk) { d.Shop.Stock = []int{10, 0, 1, 10} })
	wantDesk(t, deskD(), want, "stock 0 5>ok", "stock 2 1>ok", "stock 3 10>ok", "stock 0 4>ok")
	wantKept(t, want, "stock 0 1>no", "stock 0 0>ok", "stock 3 999999>no", "stock 2 10>no", "stock 1 11>no", "stock 4 0>no", "stock 4 1>no", "stock 999999 1>no")
	wantKept(t, deskD(func(d *api.Desk) { d.Shop = api.Shop{} }), "stock 0 0>no", "stock 0 1>no")
}

func TestP12_2Comes(t *testing.T) {
	want := deskD(func(d *api.Desk) {
		d.Shop.Deliveries = append(d.Shop.Deliveries, delivery(99, 3, 1), delivery(0, 0, 10), delivery(5, 1, 2))
	})
	wantDesk(t, deskD(), want, "comes 99 3 1>ok", "comes 0 0 10>ok", "comes 5 1 2>ok")
	wantKept(t, want, "comes 100 3 1>no", "comes 5 4 1>no", "comes 5 3 0>no", "comes 5 3 11>no", "comes 999999 999999 999999>no")
	wantAnswers(t, want, "comes 5 1 2>ok", "comes 5 1 2>ok", "comes 5 1 2>ok", "comes 5 1 2>no", "comes 0 0 1>no")
}

func TestP12_2Piece(t *testing.T) {
	want := deskD(func(d *api.Desk) {
		d.Shop.Pieces = append(d.Shop.Pieces, piece(4, 5, 6, 1), piece(99, 98, 97, 0, 0, 1), piece(0, 0, 0, 0, 1), piece(3, 2, 1, 1, 0))
	})
	wantDesk(t, deskD(), want, "piece 4 5 6 1>ok", "piece 99 98 97 0 0 1>ok", "piece 0 0 0 0 1>ok", "piece 3 2 1 1 0>ok", "piece 1 60 0 0>no")
	wantKept(t, deskD(), "piece 100 60 0 0>no", "piece 1 100 0 0>no", "piece 1 60 100 0>no", "piece 1 60 0 2>no", "piece 1 60 0 0 2>no", "piece 1 60 0 1 1>no", "piece 1 60 0 0 1 0>no", "piece 1 60 0 0 1 1>no", "piece 1 60 0 0 0 1 2>no", "piece 1 60 0 0"+strings.Repeat(" 1", 1000)+">no", "piece 1 60 0>?")
}

func TestP12_2Wish(t *testing.T) {
	want := deskD(func(d *api.Desk) {
		d.Shop.Wishes = append(d.Shop.Wishes, wish(1, 2, 3, 4, 5, 6, 7), wish(0, 99, 99, 99, 100000, 0, 1, 2, 3, 4, 5, 6, 99))
	})
	wantDesk(t, deskD(), want, "wish 1 2 3 4 5 6 7>ok", "wish 0 99 99 99 100000 0 1 2 3 4 5 6 99>ok", "wish 1 2 3 4 5 6>no")
	wantKept(t, deskD(), "wish 2 1 3 4 5 6>no", "wish 1 100 3 4 5 6>no", "wish 1 2 100 4 5 6>no", "wish 1 2 3 100 5 6>no", "wish 1 2 3 4 100001 6>no", "wish 1 2 3 4 5 100>no", "wish 1 2 3 4 5>no", "wish 1 2 3 4>?",
		"wish 1 2 3 4 5 7 6>no", "wish 1 2 3 4 5 6 6>no", "wish 1 2 3 4 5 0 1 2 3 4 5 6 7 8>no", "wish 1 2 3 4 5"+strings.Repeat(" 1", 1000)+">no")
	wantAnswers(t, deskD(func(d *api.Desk) { d.Shop.Wishes, d.Shop.Pieces = nil, nil }),
		"most>0", "extra>0", "takes>0", "takes 0>no", "can 0>no", "wish 50 60 0 9 250 1 2>ok", "most>0", "extra>none", "takes>no", "takes 0>0", "takes 1>no", "can 0>none",
		"piece 2 55 0 0>ok", "can 0>0", "most>250", "takes 1>250", "piece 1 50 0 1 0>ok", "can 0>0 1", "extra>0", "wish 50 60 3 9 7 2>ok", "takes 2 1>257", "takes 1 0>250", "most>257", "extra>0")
}

func TestP12_2Drop(t *testing.T) {
	w := shopX().Wishes
	for i, left := range [][]api.Wish{{w[1], w[2], w[3]}, {w[0], w[2], w[3]}, {w[0], w[1], w[3]}, {w[0], w[1], w[2]}} {
		want := deskD(func(d *api.Desk) { d.Shop.Wishes = left })
		wantDesk(t, deskD(), want, "drop "+strconv.Itoa(i)+">ok", "drop 3>no")
	}
	wantKept(t, deskD(), "drop 4>no", "drop 5>no", "drop 999999>no")
	// those behind have numbers less by 1
	wantAnswers(t, deskD(), "can 1>0 3", "drop 0>ok", "can 0>0 3", "can 3>no", "takes 1 0 0>400", "takes 1 0 0 0>no", "most>1100", "drop 0>ok", "drop 0>ok", "can 0>none", "extra>1", "drop 0>ok", "drop 0>no", "can 0>no", "most>0", "takes>0", "extra>0")
}

func TestP12_2CanAndTakes(t *testing.T) {
	wantKept(t, deskD(), "can 0>0 1", "can 1>0 3", "can 2>2 3", "can 3>none", "can 4>no", "can 999999>no",
		"takes 2 1 3 0>1600", "takes 0 1 4 0>none", "takes 3 0 0 0>none", "takes 0 0 0 0>0", "takes 0 0 0 3>none", "takes 2 0 0 0>500", "takes 1 1 0 0>no", "takes 5 0 0 0>no", "takes 0 0 0 5>no",
		"takes>no", "takes 0>no", "takes 2 1 3>no", "takes 2 1 3 0 0>no", "takes"+strings.Repeat(" 0", 1000)+">no", "takes 999999 0 0 0>no", "most>1600", "extra>2")
}

// What comes and is tried changes what can be filled.
func TestP12_2Shop(t *testing.T) {
	wantAnswers(t, deskD(), "most>1600", "extra>2", "comes 5 3 1>ok", "can 3>2", "most>1600", "extra>1", "stock 0 1>ok", "extra>0", "most>1900", "takes 2 1 4 3>1900",
		"piece 2 65 0 0>ok", "can 3>2 4", "drop 2>ok", "most>1200")
}

// A desk begins with its slips in order and each once, as Merge returns them, also without a line.
func TestP12_2Begin(t *testing.T) {
	d := deskD(func(d *api.Desk) {
		d.Counter.Clerks = []api.Span{{}, span(-3, 4)}
		d.Counter.Closed = []api.Span{span(1, 2), span(8, 9)}
		d.Counter.Slips = []api.Slip{lent(9, 0, 5, 0, 0), back(2, 1, 7, 0), lent(9, 0, 5, 0, 0)}
		d.Counter.Voided = []int{8, 8, 3}
	})
	want := d
	want.Counter.Slips, want.Counter.Voided = []api.Slip{back(2, 1, 7, 0), lent(9, 0, 5, 0, 0)}, []int{3, 8}
	wantDesk(t, d, want)
	wantDesk(t, d, want, "most>1600", ">?", "lend 9 0 6 0 0>no", "lend 9 0 5 0 0>ok", "void 8>ok")
	want.Counter.Slips = append(want.Counter.Slips[:1:1], lent(4, 1, 100, 3, 7), lent(9, 0, 5, 0, 0))
	want.Counter.Voided = []int{3, 5, 8}
	wantDesk(t, d, want, "lend 4 1 100 3 7>ok", "void 5>ok")
	// as many slips as can be, but only one of them: there are as few then as that
	d = deskD(func(d *api.Desk) { d.Counter.Slips = slices.Repeat([]api.Slip{lent(1, 0, 1, 1, 1)}, api.MaxSlips) })
	want = deskD(func(d *api.Desk) { d.Counter.Slips = []api.Slip{lent(1, 0, 1, 1, 1), back(2, 0, 2, 1)} })
	wantDesk(t, d, want, "back 2 0 2 1>ok")
}

// Each number of answers.
func TestP12_2Answers(t *testing.T) {
	wantAnswers(t, deskD(func(d *api.Desk) {
		d.Counter.Tariff.Value, d.Counter.Tariff.Lost, d.Counter.Tariff.Pledge = 100000, 1, 100000
	}), "lend 1 0 0 9 99>ok", "where 9 0>99", "back 2 0 9999 9>ok", "lasts 1>9999 9999", "fee 1>100000 100000", "lend 3 0 1 8 99>ok", "back 4 0 2 8>ok", "owes 99>200000 200000", "held 1>200000 200000")
	price := func(d *api.Desk) {
		d.Shop.Wishes = slices.Repeat([]api.Wish{wish(0, 99, 7, 9, 100000, 0, 1)}, 6)
		d.Shop.Pieces = slices.Repeat([]api.Piece{piece(0, 1, 7, 0)}, 8)
	}
	wantAnswers(t, deskD(price), "most>600000", "takes 1 2 3 4 5 6>600000", "can 5>0 1 2 3 4 5 6 7", "extra>0")
}
