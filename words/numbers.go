package words

import (
	"cmp"
	"strconv"
	"strings"

	"shunter/api"
)

// Int returns the integer whose decimal form is s, if it is from low to high.
func Int(s string, low, high int64) (int64, api.Errno) {
	if s == "-0" || !natural(strings.TrimPrefix(s, "-")) {
		return 0, api.ErrForm
	}
	// The form is right, so an error here means a number of more than 64 bits, which is in no range.
	n, err := strconv.ParseInt(s, 10, 64)
	if err != nil || n < low || n > high {
		return 0, api.ErrRange
	}
	return n, api.OK
}

// Digits returns the decimal form of n.
func Digits(n int64) string { return strconv.FormatInt(n, 10) }

// natural reports whether s is the decimal form of a non-negative integer of any size.
func natural(s string) bool {
	if s == "" || s[0] == '0' && len(s) > 1 {
		return false
	}
	for i := 0; i < len(s); i++ {
		if !digit(s[i]) {
			return false
		}
	}
	return true
}

// compare compares two non-negative integers of any size by their decimal forms: as these have no leading zeros, the longer one is greater.
func compare(a, b string) int {
	return cmp.Or(cmp.Compare(len(a), len(b)), strings.Compare(a, b))
}

// successor returns the decimal form of the integer that follows a non-negative one of any size.
func successor(s string) string {
	b := []byte(s)
	for i := len(b) - 1; i >= 0; i-- {
		if b[i] != '9' {
			b[i]++
			return string(b)
		}
		b[i] = '0'
	}
	return "1" + string(b)
}
