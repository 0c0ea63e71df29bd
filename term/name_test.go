package term_test

import (
	"strings"
	"testing"

	"viaticum/term"
)

const (
	letters = "abcdefghijklmnopqrstuvwxyzABCDEFGHIJKLMNOPQRSTUVWXYZ"
	behind  = letters + "0123456789_:"
)

// P7.1: names by hand.
func TestNames(t *testing.T) {
	for _, s := range []string{"a", "z", "A", "Z", "x1", "Z9_:x", "a:", "a_", "a::b", "true", "false", "trusting"} {
		if !term.Name(s) {
			t.Errorf("%q is a name", s)
		}
	}
	for _, s := range []string{"", "9", "9a", "_", "_a", ":", ":a", "$x", "a-b", "a b", "a ", " a", "a\n", "a\x00", "\x00a", "é", "aé", "a.b", "a\xff"} {
		if term.Name(s) {
			t.Errorf("%q is no name", s)
		}
	}
}

// P7.1: each byte that there is, at the beginning, behind it, and at the end of a longest name.
func TestNameBytes(t *testing.T) {
	for c := range 256 {
		s := string([]byte{byte(c)})
		first, other := strings.Contains(letters, s), strings.Contains(behind, s)
		for _, x := range []struct {
			s    string
			want bool
		}{
			{s, first}, {s + "a", first}, {s + strings.Repeat("a", 31), first},
			{"a" + s, other}, {"a" + s + "a", other}, {strings.Repeat("a", 31) + s, other}, {strings.Repeat("a", 16) + s + strings.Repeat("_", 15), other},
		} {
			if term.Name(x.s) != x.want {
				t.Errorf("%q: want %v", x.s, x.want)
			}
		}
	}
}

// P7.1: 1 to 32 bytes, whatever they are.
func TestNameLengths(t *testing.T) {
	for n := range 300 {
		want := n >= 1 && n <= 32
		if term.Name(strings.Repeat("a", n)) != want || n > 0 && term.Name("Q"+strings.Repeat("7", n-1)) != want {
			t.Errorf("%d bytes: want %v", n, want)
		}
	}
	if term.Name(strings.Repeat("a", 31) + "é") {
		t.Error("32 characters, the last of them of two bytes")
	}
	if term.Name(strings.Repeat("a", 1<<20)) {
		t.Error("a great text")
	}
}

// P7.1: no name begins with hex:, but it may stand elsewhere, and its parts may stand.
func TestNameHex(t *testing.T) {
	for _, s := range []string{"hex:", "hex:a", "hex:00", "hex::", "hex:_", "hex:" + strings.Repeat("a", 28)} {
		if term.Name(s) {
			t.Errorf("%q begins with hex:", s)
		}
	}
	for _, s := range []string{"h", "he", "hex", "hexa", "hex_", "hex0", "hexa:", "hex_:a", "Hex:", "HEX:a", "heX:a", "hx:", "ahex:", "a:hex:", "h:ex:", "xhex:00"} {
		if !term.Name(s) {
			t.Errorf("%q is a name", s)
		}
	}
}
