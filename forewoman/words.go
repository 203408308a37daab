package forewoman

import (
	"strconv"
	"strings"

	"ferrule/api"
)

const (
	accepted = "ok"
	refused  = "no"
	unclear  = "?"
	liar     = "liar"
	nothing  = "none"
	inShop   = "shop"
)

// greatest is the greatest number of six digits.
const greatest = 999999

// numbersOf reads words all of which are numbers.
func numbersOf(words []string) ([]int, bool) {
	var numbers []int
	for _, word := range words {
		n, ok := numberOf(word)
		if !ok {
			return nil, false
		}
		numbers = append(numbers, n)
	}
	return numbers, true
}

// numberOf reads a word that is a number: one that is written as it would be answered, so without a sign or leading zeros.
func numberOf(word string) (int, bool) {
	n, err := strconv.Atoi(word)
	return n, err == nil && 0 <= n && n <= greatest && strconv.Itoa(n) == word
}

// say answers an error, or numbers.
func say(e api.Errno, numbers ...int) string {
	switch {
	case e == api.ErrNone || e == api.OK && len(numbers) == 0:
		return nothing
	case e != api.OK:
		return refused
	}
	var words []string
	for _, n := range numbers {
		words = append(words, wordOf(n))
	}
	return strings.Join(words, " ")
}

// wordOf writes a number of an answer. None is below 0, but what hire.Where says for the shop.
func wordOf(n int) string {
	if n < 0 {
		return inShop
	}
	return strconv.Itoa(n)
}

func sayNumber(n int, e api.Errno) string { return say(e, n) }

func saySpan(s api.Span, e api.Errno) string { return say(e, s.Low, s.High) }

func sayList(list []int, e api.Errno) string { return say(e, list...) }

// sayDone answers what changes the desk.
func sayDone(e api.Errno) string {
	if e != api.OK {
		return refused
	}
	return accepted
}
