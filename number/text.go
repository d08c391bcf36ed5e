package number

import "headend/api"

// Text returns a number in decimal.
func Text(a api.Natural) (string, api.Errno) {
	if e := checkAll(a); e != api.OK {
		return "", e
	}
	if len(a) == 0 {
		return "0", api.OK
	}
	var decimals []uint8
	for i := len(a) - 1; i >= 0; i-- {
		decimals = scale(decimals, 10, digitBase, uint64(a[i]))
	}
	text := make([]byte, len(decimals))
	for i, d := range decimals {
		text[len(text)-1-i] = '0' + d
	}
	return string(text), api.OK
}

// Parse returns the number of a decimal text.
func Parse(s string) (api.Natural, api.Errno) {
	if !isDecimal(s) {
		return nil, api.ErrForm
	}
	var a api.Natural
	for i := range len(s) {
		a = scale(a, digitBase, 10, uint64(s[i]-'0'))
		if tooLarge(a) {
			return nil, api.ErrMany
		}
	}
	return a, api.OK
}

// isDecimal reports whether a text is what Text returns for some number.
func isDecimal(s string) bool {
	for i := range len(s) {
		if s[i] < '0' || s[i] > '9' {
			return false
		}
	}
	return s == "0" || s != "" && s[0] != '0'
}
