package forewoman

import (
	"slices"
	"strings"

	"ferrule/api"
	"ferrule/hire"
)

// work is a desk at work. It has its memory for itself, so that a list of the
// desk stays as it is if one that was made longer from it is refused.
type work struct {
	api.Desk
	deeds map[string]deed
}

// deed is what a word does with the numbers behind it.
type deed struct {
	needs int  // so many numbers
	more  bool // any others may follow
	do    func(w *work, numbers []int) string
}

func deeds() map[string]deed {
	return map[string]deed{
		"lend":    {5, false, (*work).lend},
		"back":    {4, false, (*work).back},
		"void":    {1, false, (*work).void},
		"lasts":   {1, false, (*work).lasts},
		"fee":     {1, false, (*work).fee},
		"owes":    {1, false, (*work).owes},
		"held":    {1, false, (*work).held},
		"where":   {2, false, (*work).where},
		"missing": {1, false, (*work).missing},
		"trial":   {4, false, (*work).trial},
		"fits":    {3, false, (*work).fits},
		"stock":   {2, false, (*work).stock},
		"comes":   {3, false, (*work).comes},
		"piece":   {4, true, (*work).piece},
		"wish":    {5, true, (*work).wish},
		"drop":    {1, false, (*work).drop},
		"can":     {1, false, (*work).can},
		"takes":   {0, true, (*work).takes},
		"most":    {0, false, (*work).most},
		"extra":   {0, false, (*work).extra},
	}
}

// begin opens a desk that is valid.
func begin(d api.Desk) *work {
	counter, _ := hire.Merge(d.Counter, nil, nil) // nothing more can neither clash nor be too much
	return &work{api.Desk{Shop: copied(d.Shop), Counter: counter}, deeds()}
}

// copied is a shop in new memory.
func copied(s api.Shop) api.Shop {
	w := s.Workshop
	s.Workshop = api.Workshop{Spares: slices.Clone(w.Spares), Cut: w.Cut, Table: slices.Clone(w.Table)}
	for _, m := range w.Makes {
		slots := slices.Clone(m.Slots)
		for i := range slots {
			slots[i].Sections = slices.Clone(slots[i].Sections)
		}
		s.Workshop.Makes = append(s.Workshop.Makes, api.Make{Slots: slots})
	}
	s.Stock, s.Deliveries = slices.Clone(s.Stock), slices.Clone(s.Deliveries)
	s.Pieces, s.Wishes = slices.Clone(s.Pieces), slices.Clone(s.Wishes)
	for i := range s.Pieces {
		s.Pieces[i].Broken = slices.Clone(s.Pieces[i].Broken)
	}
	for i := range s.Wishes {
		s.Wishes[i].Colors = slices.Clone(s.Wishes[i].Colors)
	}
	return s
}

// answer does what a line says, and answers it.
func (w *work) answer(line string) string {
	words := strings.Split(line, " ")
	d, known := w.deeds[words[0]]
	numbers, valid := numbersOf(words[1:])
	if !known || !valid || len(numbers) < d.needs || len(numbers) > d.needs && !d.more {
		return unclear
	}
	return d.do(w, numbers)
}
