package files

import "ferrule/api"

// values is how many values a byte of a text can have.
const values = 95

func valueOf(b byte) int { return int(b - ' ') }

func written(value int) byte { return ' ' + byte(value) }

// check is the check of some bytes, written.
func check(bytes ...byte) byte {
	sum := 0
	for _, b := range bytes {
		sum += valueOf(b)
	}
	return written(sum % values)
}

// fails tells whether the last byte of a line or a column is not the check of those before it.
func fails(bytes []byte) bool {
	last := len(bytes) - 1
	return bytes[last] != check(bytes[:last]...)
}

func isText(text string) bool { return len(text) <= api.MaxLine && isPlain(text) }

// isPlain tells whether a text has no other bytes than those with a value. A byte
// above these begins a letter that is above them too, or is read as one.
func isPlain(text string) bool {
	for _, letter := range text {
		if !hasValue(letter) {
			return false
		}
	}
	return true
}

func hasValue(letter rune) bool { return ' ' <= letter && letter <= '~' }
