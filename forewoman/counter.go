package forewoman

import (
	"ferrule/api"
	"ferrule/hire"
)

func (w *work) lend(n []int) string {
	return w.merge([]api.Slip{{Id: n[0], Clerk: n[1], At: n[2], Kind: api.Lent, Umbrella: n[3], Guest: n[4]}}, nil)
}

func (w *work) back(n []int) string {
	return w.merge([]api.Slip{{Id: n[0], Clerk: n[1], At: n[2], Kind: api.Returned, Umbrella: n[3]}}, nil)
}

func (w *work) void(n []int) string { return w.merge(nil, n) }

func (w *work) merge(slips []api.Slip, voided []int) string {
	counter, e := hire.Merge(w.Counter, slips, voided)
	if e == api.OK {
		w.Counter = counter
	}
	return sayDone(e)
}

func (w *work) lasts(n []int) string { return saySpan(hire.Lasts(w.Counter, n[0])) }

func (w *work) fee(n []int) string { return saySpan(hire.Fee(w.Counter, n[0])) }

func (w *work) owes(n []int) string { return saySpan(hire.Owes(w.Counter, n[0])) }

func (w *work) held(n []int) string { return saySpan(hire.Held(w.Counter, n[0])) }

func (w *work) where(n []int) string { return sayList(hire.Where(w.Counter, n[0], n[1])) }

func (w *work) missing(n []int) string {
	sure, may, e := hire.Missing(w.Counter, n[0])
	if e != api.OK {
		return say(e)
	}
	return say(e, sure...) + " / " + say(e, may...)
}
