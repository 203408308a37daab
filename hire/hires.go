package hire

// hire is one in a truth: the event of api.Lent, and when its umbrella came back, if it did.
type hire struct {
	event
	back bool
	end  int
}

// hires yields all hires of the truth.
func (b *book) hires(yield func(hire) bool) {
	for _, events := range b.events {
		for i := 0; i < len(events); i += 2 {
			h := hire{event: events[i]}
			if i+1 < len(events) {
				h.back, h.end = true, events[i+1].minute
			}
			if !yield(h) {
				return
			}
		}
	}
}

// hireOf is the hire of a slip.
func (b *book) hireOf(slip int) hire {
	for h := range b.hires {
		if h.Id == slip {
			return h
		}
	}
	return hire{}
}

// holder is the guest with whom an umbrella is after a minute.
func (b *book) holder(umbrella, minute int) int {
	for h := range b.hires {
		if h.Umbrella == umbrella && h.isOut(minute) {
			return h.Guest
		}
	}
	return inShop
}

// isOut tells whether the umbrella of a hire is with its guest after a minute.
func (h hire) isOut(minute int) bool {
	return h.minute <= minute && !(h.back && h.end <= minute)
}

// isMissing tells whether the umbrella of a hire has been out for too long, and still is.
func (b *book) isMissing(h hire, minute int) bool {
	return h.isOut(minute) && b.opened(h.minute, minute) >= b.Tariff.Lost
}

// lasts is how many minutes a finished hire lasts.
func (b *book) lasts(h hire) int { return b.opened(h.minute, h.end) }

// fee is what a finished hire costs.
func (b *book) fee(h hire) int {
	t, many := b.Tariff, b.lasts(h)
	if many >= t.Lost {
		return t.Value
	}
	units := (max(0, many-t.Free) + t.Unit - 1) / t.Unit
	return min(t.Most, units*t.Price)
}

// opened is how many minutes there are from one on, before another one, in which the shop is not closed.
func (b *book) opened(from, to int) int {
	many := to - from
	for _, s := range b.Closed {
		many -= max(0, min(to, s.High+1)-max(from, s.Low))
	}
	return many
}
