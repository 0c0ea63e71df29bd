package match_test

import (
	"strings"
	"testing"

	"viaticum/api"
	"viaticum/match"
)

// faults are texts that are no patterns.
func faults() []string {
	return []string{
		"*", "+", "?", "a**", "a+*", "|*", "(*)", "(", ")", "a)", "(a", "a)(b", "a)|(b", "[", "[]", "[^]", "[b-a]", "[a", `\`, `a\`, `[\]`, "())", strings.Repeat("(", 20), strings.Repeat("a", 255) + `\`,
	}
}

// long is a text of as many bytes.
func long(many int) string {
	return strings.Repeat("a", many)
}

// P10.1: texts of 256 bytes may be, those of 257 and more may not.
func TestLength(t *testing.T) {
	for _, s := range []string{"a", ".", "\x00", "\xff", "^"} {
		wantFits(t, "b*", strings.Repeat(s, 256), true, false)
		wantFits(t, ".*", strings.Repeat(s, 256), true, true)
		for _, many := range []int{257, 258, 512, 10000} {
			wantErrno(t, ".*", strings.Repeat(s, many), api.ErrArg)
			wantErrno(t, "", strings.Repeat(s, many), api.ErrArg)
		}
	}
	wantFits(t, "a*", long(255), true, true)
	wantFits(t, "a", long(256), true, false)
	wantErrno(t, "a*", long(257), api.ErrArg)
	// 128 letters of two bytes each may be, 129 may not.
	wantFits(t, ".*", strings.Repeat("é", 128), true, true)
	wantErrno(t, ".*", strings.Repeat("é", 129), api.ErrArg)
}

// P10.1: patterns of 256 bytes may be, so a text of 256 bytes can fit one.
func TestLongPatterns(t *testing.T) {
	wantFits(t, long(256), long(256), true, true)
	wantFits(t, long(256), long(255), false, false)
	wantFits(t, long(255)+"$", long(256), true, false)
	wantFits(t, strings.Repeat("a*", 128), long(256), true, true)
	wantFits(t, strings.Repeat("a?", 128), long(128), true, true)
	wantFits(t, strings.Repeat("a?", 128), long(129), true, false)
	wantFits(t, strings.Repeat("|", 256), "", true, true)
	wantFits(t, strings.Repeat("|", 255)+"a", "a", true, true)
	wantFits(t, strings.Repeat("a|", 127)+"ab", "ab", true, true)
}

// P10.1: the text's length is told ahead of whatever the pattern is.
func TestTextAheadOfPattern(t *testing.T) {
	for _, s := range faults() {
		wantErrno(t, s, long(257), api.ErrArg)
		wantErrno(t, s+s, long(1000), api.ErrArg)
	}
	for _, s := range []string{long(257), long(10000), strings.Repeat("*", 257), strings.Repeat("(", 300), strings.Repeat("(", 21), strings.Repeat("(", 21) + strings.Repeat(")", 21)} {
		wantErrno(t, s, long(257), api.ErrArg)
		wantErrno(t, s, long(1000), api.ErrArg)
	}
}

// P10.1: what is no pattern, with texts that may be, the empty one and the longest ones among them.
func TestNoPattern(t *testing.T) {
	for _, text := range []string{"", "a", "*", "(", "a)(b", `\`, long(256)} {
		for _, s := range faults() {
			wantErrno(t, s, text, api.ErrForm)
		}
		for _, s := range []string{long(257), long(10000), strings.Repeat("*", 257), strings.Repeat("a*", 129)} {
			wantErrno(t, s, text, api.ErrSize)
		}
	}
}

// P10.1: 20 parentheses within one another may be, for Whole, too, 21 may not.
func TestDepth(t *testing.T) {
	within := func(many int) string { return strings.Repeat("(", many) + "a" + strings.Repeat(")", many) }
	wantFits(t, within(20), "a", true, true)
	wantFits(t, within(20), "ba", true, false)
	wantFits(t, within(20)+within(20), "aa", true, true)
	for _, text := range []string{"", "a", "ba", long(256)} {
		wantErrno(t, within(21), text, api.ErrSize)
		wantErrno(t, strings.Repeat("(", 21), text, api.ErrSize)
		wantErrno(t, within(21)+"*)", text, api.ErrSize)
		wantErrno(t, "*"+within(21), text, api.ErrForm)
		wantErrno(t, within(20)+")", text, api.ErrForm)
	}
}

// P10.1: a fault of the pattern is told though the text would be found ahead of it.
func TestFaultBehindPart(t *testing.T) {
	for _, s := range []string{"a|*", "a|(", "a|[", `a|\`, "|)", "^*|[]", "a*|b**"} {
		wantErrno(t, s, "a", api.ErrForm)
		wantErrno(t, s, "", api.ErrForm)
	}
	wantErrno(t, "a|"+strings.Repeat("(", 21), "a", api.ErrSize)
}

// R6: an answer hangs on nothing that went ahead, nor on what goes on beside it.
func TestNothingIsKept(t *testing.T) {
	for range 8 {
		t.Run("", func(t *testing.T) {
			t.Parallel()
			for range 200 {
				wantFits(t, "^(a|b)*c", "abac", true, true)
				wantErrno(t, "*", "a", api.ErrForm)
				wantFits(t, "b+", "abbc", true, false)
				wantErrno(t, "a", long(257), api.ErrArg)
				wantFits(t, "", "", true, true)
				wantErrno(t, long(257), "", api.ErrSize)
				wantFits(t, "[^a]", "aaa", false, false)
			}
		})
	}
}

// R3, R4: whatever comes, each call ends, and tells nothing beside an error.
func FuzzMatch(f *testing.F) {
	for _, s := range faults() {
		f.Add(s, "a")
	}
	for _, s := range []string{"", "a*", "(a|b)*c", "^a$", "[^a-c]+", "(()*)*", "(a?)*(a?)*b"} {
		f.Add(s, "abc")
		f.Add(s, "")
		f.Add(s, long(256))
		f.Add(s, long(257))
	}
	f.Fuzz(func(t *testing.T, pattern, text string) {
		find, e := match.Find(pattern, text)
		whole, g := match.Whole(pattern, text)
		if e != g || e != api.OK && (find || whole) || whole && !find {
			t.Errorf("%q, %q: Find %v, %d, Whole %v, %d", pattern, text, find, e, whole, g)
		}
		if (len(text) > api.MaxText) != (e == api.ErrArg) {
			t.Errorf("%q: %d bytes, %d", pattern, len(text), e)
		}
		if e == api.OK {
			wantBetweenEdges(t, pattern, text)
		}
	})
}
