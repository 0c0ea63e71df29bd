package term

import "strings"

const (
	longestName = 32
	bytesMark   = "hex:" // in a text bytes begin with it, so no name may
)

// Name tells whether s is a name: a letter, then letters, digits, `_` and `:`.
func Name(s string) bool {
	if len(s) < 1 || len(s) > longestName {
		return false
	}
	if !letter(s[0]) || strings.HasPrefix(s, bytesMark) {
		return false
	}
	for i := range len(s) {
		if !ofName(s[i]) {
			return false
		}
	}
	return true
}

func letter(c byte) bool {
	return 'a' <= c && c <= 'z' || 'A' <= c && c <= 'Z'
}

func ofName(c byte) bool {
	return letter(c) || '0' <= c && c <= '9' || c == '_' || c == ':'
}
