package frames

import "ferrule/api"

// cosine is not reduced; the distance must be above 0.
func cosine(d, arm, stretch int) api.Frac {
	return api.Frac{Num: d*d + arm*arm - stretch*stretch, Den: 2 * d * arm}
}

// less compares fractions with a Den above 0.
func less(a, b api.Frac) bool { return a.Num*b.Den < b.Num*a.Den }

func reduced(q api.Frac) api.Frac {
	n := divisor(max(q.Num, -q.Num), q.Den)
	return api.Frac{Num: q.Num / n, Den: q.Den / n}
}

// divisor is the greatest common one of a, which can be 0, and b, which is above 0.
func divisor(a, b int) int {
	for a != 0 {
		a, b = b%a, a
	}
	return b
}
