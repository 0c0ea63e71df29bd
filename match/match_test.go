package match_test

import (
	"strings"
	"testing"
)

// The chapter's example.
func TestExample(t *testing.T) {
	wantFits(t, "b+", "abbc", true, false)
}

// P10.1: the empty pattern fits the empty part, and the empty text alone as a whole.
func TestEmptyPattern(t *testing.T) {
	for _, pattern := range []string{"", "()", "(())", "|", "()|()", "a*", "a?", "(|a)"} {
		wantFits(t, pattern, "", true, true)
		wantFits(t, pattern, "xyz", true, false)
		wantFits(t, pattern, strings.Repeat("\x00", 256), true, false)
	}
	for _, pattern := range []string{"a", "a+", ".", "[^a]", "(a|b)", "\\a", "^.", ".$"} {
		wantFits(t, pattern, "", false, false)
	}
}

// P10.1: a part at the text's beginning, in its middle, at its end, and all of it.
func TestPlaceOfPart(t *testing.T) {
	wantEach(t, "abc", map[string][]string{
		all:  {"abc"},
		part: {"abcx", "xabcx", "xabc", "ababc", "abcabc", "xxxxabc", "aabcc"},
		none: {"", "a", "ab", "bc", "abxc", "axbc", "acb", "cba", "ABC", "ab c"},
	})
	wantEach(t, "a", map[string][]string{all: {"a"}, part: {"ab", "bab", "ba", "aa"}, none: {"", "b", "A"}})
	wantEach(t, "aab", map[string][]string{all: {"aab"}, part: {"aaab", "aaaaaab", "abaab", "aabaab"}, none: {"aa", "ab", "abab", "aba", "bba"}})
}

// P10.1: the empty part at each place, where what stands around it lets no other one fit.
func TestEmptyPart(t *testing.T) {
	for _, pattern := range []string{"", "z*", "z?", "(z|)", "(z+)*"} {
		for _, text := range texts(4, "ab") {
			wantFits(t, pattern, text, true, text == "")
			wantFits(t, "^"+pattern, text, true, text == "")
			wantFits(t, pattern+"$", text, true, text == "")
			wantFits(t, "^"+pattern+"$", text, text == "", text == "")
		}
	}
	// Which place it is can be told by what has to be ahead of it and behind.
	for i := range 5 {
		text := strings.Repeat("a", i) + strings.Repeat("b", 4-i)
		for j := range 5 {
			pattern := "^" + strings.Repeat("a", j) + "(z*)" + strings.Repeat("b", 4-j) + "$"
			wantFits(t, pattern, text, i == j, i == j)
		}
	}
}

// P10.1: each form by itself.
func TestForms(t *testing.T) {
	wantEach(t, "ab*c", map[string][]string{all: {"ac", "abc", "abbbbc"}, part: {"aac", "xabcx"}, none: {"abb", "bbc", "abbxc"}})
	wantEach(t, "ab+c", map[string][]string{all: {"abc", "abbbbc"}, part: {"aabc", "abcc"}, none: {"ac", "abb", "abbxc"}})
	wantEach(t, "ab?c", map[string][]string{all: {"ac", "abc"}, part: {"aac", "xabcx"}, none: {"abbc", "ab", "bc"}})
	wantEach(t, "(ab)*", map[string][]string{all: {"", "ab", "ababab"}, part: {"aba", "ba", "abba"}})
	wantEach(t, "(ab)+", map[string][]string{all: {"ab", "ababab"}, part: {"aba", "abba", "bab"}, none: {"", "ba", "aa", "bbaa"}})
	wantEach(t, "c(ab)?c", map[string][]string{all: {"cc", "cabc"}, part: {"ccc", "ccabc"}, none: {"cababc", "cac", "cbc"}})
	wantEach(t, "a*b*", map[string][]string{all: {"", "a", "b", "aab", "abb"}, part: {"ba", "aba"}})
	wantEach(t, `a\*`, map[string][]string{all: {"a*"}, part: {"aa*a"}, none: {"a", "aa", "", `a\`, `a\*`}})
}

// P10.1: one of two fits sooner, and the other one further; the order in which they are written does not matter.
func TestAlternatives(t *testing.T) {
	for _, pattern := range []string{"a|abc", "abc|a", "(a|abc)", "(abc|a)"} {
		wantEach(t, pattern, map[string][]string{all: {"a", "abc"}, part: {"ab", "abca", "xabc", "bca"}, none: {"", "b", "bc"}})
	}
	for _, pattern := range []string{"(a|ab)(c|bcd)", "(ab|a)(bcd|c)", "(a|ab)(bcd|c)"} {
		wantEach(t, pattern, map[string][]string{all: {"abcd", "abc", "ac", "abbcd"}, part: {"xabcd", "abcdx", "acc"}, none: {"abd", "bcd", "ab", "cd"}})
	}
	wantEach(t, "(a|ab|abc)(cd|d)", map[string][]string{all: {"acd", "ad", "abcd", "abd", "abccd"}, none: {"abc", "cd", "abbd"}})
	wantEach(t, "(abcdefgh|b)", map[string][]string{all: {"abcdefgh", "b"}, part: {"abcdefg", "ab"}, none: {"acdefgh"}})
	wantEach(t, "abx|bcd", map[string][]string{all: {"abx", "bcd"}, part: {"abcd"}, none: {"abc", "abd", "bx"}})
	wantEach(t, "ab|cd|ef", map[string][]string{all: {"ab", "cd", "ef"}, part: {"xcdx", "abcd"}, none: {"ad", "cf", "bc", "de"}})
}

// P10.1: any alternative may be empty.
func TestEmptyAlternatives(t *testing.T) {
	for _, pattern := range []string{"|a", "a|", "(|a)", "(a|)", "||a", "a||", "|a|", "(a|)|"} {
		wantEach(t, pattern, map[string][]string{all: {"", "a"}, part: {"b", "aa", "ba"}})
	}
	wantEach(t, "b(|a)b", map[string][]string{all: {"bb", "bab"}, part: {"abb", "bbab"}, none: {"", "b", "ba", "baab"}})
	wantEach(t, "(a|)(b|)c", map[string][]string{all: {"c", "ac", "bc", "abc"}, part: {"bac"}, none: {"", "ab"}})
	wantEach(t, "||", map[string][]string{all: {""}, part: {"a", "|"}})
}

// P10.1: what fits the empty text, as often as you like, still ends.
func TestRepeatedNothing(t *testing.T) {
	for _, pattern := range []string{
		"()*", "()+", "()?", "(())*", "(()*)*", "(()+)+", "(()?)*", "(()*)+", "(()+)*", "(|)*", "(|)+", "(||)*", "((|)*|)*", "((()*)*)*", "()*()*", "(()*()+()?)*",
	} {
		ends(t, pattern, func() {
			wantFits(t, pattern, "", true, true)
			wantFits(t, pattern, "x", true, false)
			wantFits(t, pattern, strings.Repeat("x", 256), true, false)
			wantFits(t, "a"+pattern+"b", "ab", true, true)
			wantFits(t, "a"+pattern+"b", "a", false, false)
		})
	}
}

// P10.1: *, + and ? of one another within parentheses.
func TestRepeatedRepeated(t *testing.T) {
	for _, outer := range []string{"*", "+", "?"} {
		for _, inner := range []string{"*", "+", "?"} {
			pattern := "^(a" + inner + ")" + outer + "b$"
			empty := inner != "+" || outer != "+"
			many := inner != "?" || outer != "?"
			ends(t, pattern, func() {
				wantFits(t, pattern, "b", empty, empty)
				wantFits(t, pattern, "ab", true, true)
				wantFits(t, pattern, "aab", many, many)
				wantFits(t, pattern, strings.Repeat("a", 255)+"b", many, many)
				wantFits(t, pattern, strings.Repeat("a", 256), false, false)
				wantFits(t, pattern, "acab", false, false)
			})
		}
	}
	for _, pattern := range []string{"(a*)*", "(a+)*", "(a?)*", "((a*)*)*", "((a*)+)?", "(|a)*", "(a|)*", "(a*|b?)*", "(a*a*)*", "(()a*)*", "(a*())+"} {
		ends(t, pattern, func() {
			wantFits(t, pattern, "", true, true)
			wantFits(t, pattern, "aaaa", true, true)
			wantFits(t, pattern, "aaca", true, false)
		})
	}
}

// P10.1: a way through parentheses as deep as may be.
func TestDeep(t *testing.T) {
	for _, behind := range []string{"", "*", "+", "?"} {
		pattern := strings.Repeat("(", 20) + "ab" + strings.Repeat(")"+behind, 20)
		many := behind == "*" || behind == "+"
		empty := behind == "*" || behind == "?"
		wantFits(t, pattern, "ab", true, true)
		wantFits(t, pattern, "abab", true, many)
		wantFits(t, pattern, "", empty, empty)
		wantFits(t, pattern, "xabx", true, false)
		wantFits(t, pattern, "ba", empty, false)
	}
}
