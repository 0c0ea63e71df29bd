package match_test

import (
	"strings"
	"testing"
)

// quoted is the byte with a backslash ahead, so that it is that byte in each place of a pattern.
func quoted(c int) string {
	return `\` + string([]byte{byte(c)})
}

// P10.1: a step takes a byte if its Set has it, and no other one: each byte held against each.
func TestEachByte(t *testing.T) {
	for c := range 256 {
		for d := range 256 {
			text := string([]byte{byte(d)})
			wantFits(t, quoted(c), text, c == d, c == d)
		}
	}
}

// P10.1: . takes each byte, those of 128 and more, 0 and the end of a line among them.
func TestAnyByte(t *testing.T) {
	for c := range 256 {
		text := string([]byte{byte(c)})
		wantFits(t, ".", text, true, true)
		wantFits(t, ".", text+text, true, false)
		wantFits(t, "^.$", text+text, false, false)
		wantFits(t, "a.b", "a"+text+"b", true, true)
	}
	wantFits(t, ".", "", false, false)
	wantFits(t, ".*", strings.Repeat("\xff\x00\n", 85), true, true)
}

// P10.1: classes, and classes turned about, by each byte.
func TestClasses(t *testing.T) {
	for pattern, has := range map[string]func(c int) bool{
		`[abc]`:           func(c int) bool { return c >= 'a' && c <= 'c' },
		`[a-c]`:           func(c int) bool { return c >= 'a' && c <= 'c' },
		`[^a-c]`:          func(c int) bool { return c < 'a' || c > 'c' },
		`[a-cx0-9]`:       func(c int) bool { return c >= 'a' && c <= 'c' || c == 'x' || c >= '0' && c <= '9' },
		`[^a-cx0-9]`:      func(c int) bool { return (c < 'a' || c > 'c') && c != 'x' && (c < '0' || c > '9') },
		`[.]`:             func(c int) bool { return c == '.' },
		`[^.]`:            func(c int) bool { return c != '.' },
		`[$^]`:            func(c int) bool { return c == '$' || c == '^' },
		`[^^]`:            func(c int) bool { return c != '^' },
		`[\]\\-]`:         func(c int) bool { return c == ']' || c == '\\' || c == '-' },
		"[\x00]":          func(c int) bool { return c == 0 },
		"[^\x00]":         func(c int) bool { return c != 0 },
		"[\x00-\x7f]":     func(c int) bool { return c < 128 },
		"[^\x00-\x7f]":    func(c int) bool { return c >= 128 },
		"[\x80-\xff]":     func(c int) bool { return c >= 128 },
		"[^\x80-\xff]":    func(c int) bool { return c < 128 },
		"[\x3f-\x40]":     func(c int) bool { return c == 63 || c == 64 },
		"[\x7f-\x80]":     func(c int) bool { return c == 127 || c == 128 },
		"[\xbf-\xc0\xff]": func(c int) bool { return c == 191 || c == 192 || c == 255 },
		"[\x00-\xff]":     func(c int) bool { return true },
		"[^\x00-\xff]":    func(c int) bool { return false },
		"([^a]|[^b])":     func(c int) bool { return true },
	} {
		for c := range 256 {
			text := string([]byte{byte(c)})
			wantFits(t, pattern, text, has(c), has(c))
			wantFits(t, "x"+pattern+"y", "x"+text+"y", has(c), has(c))
		}
		wantFits(t, pattern, "", false, false)
	}
}

// P10.1: texts are bytes, whatever letters they spell.
func TestLettersBeyondASCII(t *testing.T) {
	wantEach(t, "é", map[string][]string{all: {"é", "\xc3\xa9"}, part: {"éé", "\xc3\xc3\xa9"}, none: {"", "\xc3", "\xa9", "e", "\xa9\xc3"}})
	wantEach(t, "^..$", map[string][]string{all: {"é", "ab", "\xff\xfe"}, none: {"a", "éa", "€"}})
	wantEach(t, "[é]+", map[string][]string{all: {"é", "\xc3", "\xa9", "\xa9\xc3"}, part: {"xé", "ê"}, none: {"e", "\xaa"}})
	wantEach(t, "é*", map[string][]string{all: {"\xc3", "é", "\xc3\xa9\xa9"}, part: {"éé", "xé"}, none: {"", "\xa9", "e"}})
}

// P10.1: the byte 0 ends nothing.
func TestByteZero(t *testing.T) {
	wantEach(t, "a\x00b", map[string][]string{all: {"a\x00b"}, part: {"\x00a\x00b\x00"}, none: {"ab", "a\x00", "\x00b", "a0b", "a\x00\x00b"}})
	wantFits(t, "\x00*", strings.Repeat("\x00", 256), true, true)
	wantFits(t, "b$", "a\x00b", true, false)
	wantFits(t, "a$", "a\x00b", false, false)
	wantFits(t, "^b", "a\x00b", false, false)
	wantFits(t, "^a$", "a\x00", false, false)
}

// P10.1: neither First nor Last looks at lines.
func TestLines(t *testing.T) {
	wantFits(t, "^b", "a\nb", false, false)
	wantFits(t, "a$", "a\nb", false, false)
	wantFits(t, "a$", "a\n", false, false)
	wantFits(t, "^a\n$", "a\n", true, true)
	wantFits(t, "^$", "\n", false, false)
}
