package date

import (
	"strconv"
	"strings"
)

// fits tells whether s is the shape, with any digit for each of its noughts.
func fits(s, shape string) bool {
	if len(s) != len(shape) {
		return false
	}
	for i := range len(s) {
		if shape[i] == '0' && !digit(s[i]) {
			return false
		}
		if shape[i] != '0' && s[i] != shape[i] {
			return false
		}
	}
	return true
}

func digit(c byte) bool {
	return '0' <= c && c <= '9'
}

// number tells the number of digits, of which there are few.
func number(s string) int {
	n := 0
	for i := range len(s) {
		n = 10*n + int(s[i]-'0')
	}
	return n
}

// digits tells n with noughts ahead that bring it to so many digits.
func digits(n, width int) string {
	s := strconv.Itoa(n)
	return strings.Repeat("0", max(0, width-len(s))) + s
}
