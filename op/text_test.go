package op_test

import (
	"strings"
	"testing"

	"viaticum/api"
	"viaticum/match"
)

// P11.3: texts one behind the other.
func TestAddTexts(t *testing.T) {
	wantBinary(t, api.BAdd, text("a"), text("b"), text("ab"))
	wantBinary(t, api.BAdd, text("b"), text("a"), text("ba"))
	wantBinary(t, api.BAdd, text(""), text(""), text(""))
	wantBinary(t, api.BAdd, text(""), text("ab"), text("ab"))
	wantBinary(t, api.BAdd, text("ab"), text(""), text("ab"))
	wantBinary(t, api.BAdd, text("\x00"), text("\xc3"), text("\x00\xc3"))
	wantBinary(t, api.BAdd, text("1"), text("2"), text("12"))
}

// P11.3: of MaxText bytes at most together.
func TestAddLengths(t *testing.T) {
	for _, many := range []int{0, 1, 2, 100, 127, 128, 129, 255, 256} {
		for _, more := range []int{0, 1, 2, 127, 128, 129, 156, 157, 254, 255, 256} {
			a, b := text(strings.Repeat("a", many)), text(strings.Repeat("b", more))
			if many+more > 256 {
				wantNoBinary(t, api.BAdd, a, b, api.ErrSize)
				continue
			}
			wantBinary(t, api.BAdd, a, b, text(a.S+b.S))
		}
	}
	// It is bytes that count, not letters.
	wantNoBinary(t, api.BAdd, text(strings.Repeat("é", 128)), text("a"), api.ErrSize)
	wantBinary(t, api.BAdd, text(strings.Repeat("é", 127)), text("é"), text(strings.Repeat("é", 128)))
}

// strewn are texts that have parts in common.
func strewn() []string {
	l := []string{"", "\x00", "\x00\x00", "\xff", "é", "\xc3", "\xa9", long(255), long(256), long(255) + "b", "b" + long(255)}
	for from, many := 0, 0; many < 4; many++ {
		to := len(l)
		for _, s := range l[from:to] {
			if len(s) == many {
				l = append(l, s+"a", s+"b")
			}
		}
		from = to
		if many == 0 {
			from = 1
		}
	}
	return l
}

// isAt tells byte by byte whether b stands in a at that place.
func isAt(a, b string, place int) bool {
	if place < 0 || place+len(b) > len(a) {
		return false
	}
	for i := range len(b) {
		if a[place+i] != b[i] {
			return false
		}
	}
	return true
}

// P11.3: a part at the beginning, in the middle, at the end.
func TestParts(t *testing.T) {
	for _, a := range strewn() {
		for _, b := range strewn() {
			isIn := false
			for place := range len(a) + 1 {
				isIn = isIn || isAt(a, b, place)
			}
			wantIs(t, api.BContains, text(a), text(b), isIn)
			for _, of := range []func(s string) api.Term{text, raw} {
				wantIs(t, api.BStarts, of(a), of(b), isAt(a, b, 0))
				wantIs(t, api.BEnds, of(a), of(b), isAt(a, b, len(a)-len(b)))
				wantIs(t, api.BSame, of(a), of(b), a == b)
				wantIs(t, api.BOther, of(a), of(b), a != b)
			}
		}
	}
}

// P11.3: parts by hand.
func TestPartsByHand(t *testing.T) {
	for part, want := range map[string][3]bool{ // contains, starts, ends
		"": {true, true, true}, "a": {true, true, false}, "ab": {true, true, false}, "b": {true, false, false}, "bc": {true, false, false}, "d": {true, false, true}, "cd": {true, false, true}, "abcd": {true, true, true}, "abcde": {}, "ac": {}, "A": {}, "da": {},
	} {
		wantIs(t, api.BContains, text("abcd"), text(part), want[0])
		wantIs(t, api.BStarts, text("abcd"), text(part), want[1])
		wantIs(t, api.BEnds, text("abcd"), text(part), want[2])
		wantIs(t, api.BStarts, raw("abcd"), raw(part), want[1])
		wantIs(t, api.BEnds, raw("abcd"), raw(part), want[2])
	}
	wantIs(t, api.BContains, text("aab"), text("ab"), true)
	wantIs(t, api.BContains, text(""), text("a"), false)
	wantNoBinary(t, api.BContains, raw("abc"), raw("b"), api.ErrType)
	wantNoBinary(t, api.BContains, text("abc"), raw("b"), api.ErrType)
	wantNoBinary(t, api.BStarts, text("abc"), raw("a"), api.ErrType)
	wantNoBinary(t, api.BEnds, raw("abc"), text("c"), api.ErrType)
}

// P11.3: the pattern is b, and a part of a that fits is enough.
func TestMatches(t *testing.T) {
	wantIs(t, api.BMatches, text("abbc"), text("b+"), true)
	wantIs(t, api.BMatches, text("abbc"), text("^b"), false)
	wantIs(t, api.BMatches, text("abbc"), text("^ab*c$"), true)
	wantIs(t, api.BMatches, text("b+"), text("abbc"), false)
	wantIs(t, api.BMatches, text(""), text(""), true)
	wantIs(t, api.BMatches, text("a"), text(""), true)
	wantIs(t, api.BMatches, text(""), text("a"), false)
	wantIs(t, api.BMatches, text(long(256)), text("^(a*)*$"), true)
	wantIs(t, api.BMatches, text(long(256)), text(long(256)), true)
	wantIs(t, api.BMatches, text("*"), text(`\*`), true)
}

// P11.3: match.Find's error.
func TestNoPattern(t *testing.T) {
	for _, a := range []string{"", "a", "*", long(256)} {
		for _, b := range []string{"*", "(", ")", "a**", "[", "[b-a]", `\`, "a|*", strings.Repeat("(", 20)} {
			wantNoBinary(t, api.BMatches, text(a), text(b), api.ErrForm)
		}
		for _, b := range []string{strings.Repeat("(", 21), strings.Repeat("(", 21) + "a" + strings.Repeat(")", 21)} {
			wantNoBinary(t, api.BMatches, text(a), text(b), api.ErrSize)
		}
		// A pattern of 257 bytes is no text that may be.
		wantNoBinary(t, api.BMatches, text(a), text(long(257)), api.ErrArg)
		wantNoBinary(t, api.BMatches, text(long(257)), text(a), api.ErrArg)
	}
}

// P11.3: as match.Find tells it.
func TestMatchesAsFind(t *testing.T) {
	for _, a := range strewn() {
		for _, b := range append(strewn(), "a*", "^a", "b$", "[^a]", "(a|bb)+", ".b", "^$", "a|b", "*", "(") {
			fits, e := match.Find(b, a)
			if e != api.OK {
				wantNoBinary(t, api.BMatches, text(a), text(b), e)
				continue
			}
			wantIs(t, api.BMatches, text(a), text(b), fits)
		}
	}
}
