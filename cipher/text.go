package cipher

import "headend/api"

// The digits of a word are as many as the bytes of a block, so that the text of a key is two blocks.

// digits returns the digits of a word.
func digits(word uint64) api.Key {
	var text api.Key
	for i := len(text) - 1; i >= 0; i-- {
		text[i] = "0123456789abcdef"[word%16]
		word /= 16
	}
	return text
}

// value returns the word of some digits, and some word if they are no digits.
func value(text api.Key) uint64 {
	word := uint64(0)
	for _, c := range text {
		digit := c - '0'
		if c >= 'a' {
			digit = c - 'a' + 10
		}
		word = word<<4 | uint64(digit%16)
	}
	return word
}

// Text returns a key as 32 digits.
func Text(k api.Key) string {
	x, y := split(k)
	high, low := digits(x), digits(y)
	return string(high[:]) + string(low[:])
}

// Parse returns the key of a text.
func Parse(s string) (api.Key, api.Errno) {
	if len(s) != 2*blockBytes {
		return api.Key{}, api.ErrForm
	}
	high, low := api.Key([]byte(s[:blockBytes])), api.Key([]byte(s[blockBytes:]))
	x, y := value(high), value(low)
	// Only the texts of keys come back unchanged.
	if digits(x) != high || digits(y) != low {
		return api.Key{}, api.ErrForm
	}
	return join(x, y), api.OK
}
