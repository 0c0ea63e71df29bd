package match_test

import (
	"math/rand"
	"regexp"
	"strings"
	"testing"

	"viaticum/api"
	"viaticum/match"
	"viaticum/regex"
)

// wantBetweenEdges fails unless Whole is Find of the pattern between ^( and )$, where that is a pattern within the bounds; the pattern itself has to be one.
func wantBetweenEdges(t *testing.T, pattern, text string) {
	t.Helper()
	between := "^(" + pattern + ")$"
	if _, e := regex.Compile(between); e != api.OK {
		return
	}
	whole, e := match.Whole(pattern, text)
	find, g := match.Find(between, text)
	if whole != find || e != api.OK || g != api.OK {
		t.Fatalf("%q, %q: Whole %v, %d, Find of %q %v, %d", pattern, text, whole, e, between, find, g)
	}
}

// wantOfParts fails unless Find is Whole of any connected part; the pattern has to be without ^ and $.
func wantOfParts(t *testing.T, pattern, text string) {
	t.Helper()
	want := false
	for i := range len(text) + 1 {
		for j := i; j <= len(text); j++ {
			whole, e := match.Whole(pattern, text[i:j])
			if e != api.OK {
				t.Fatalf("%q, %q: %d", pattern, text[i:j], e)
			}
			want = want || whole
		}
	}
	if find, e := match.Find(pattern, text); find != want || e != api.OK {
		t.Fatalf("Find(%q, %q): got %v, %d, want %v", pattern, text, find, e, want)
	}
}

// P10.2: Whole is Find of the pattern between ^( and )$; where that would be too long or too deep, Whole still goes by the pattern.
func TestBetweenEdges(t *testing.T) {
	for _, pattern := range []string{"", "a", "a|ab", "a|", "|b", "^a", "b$", "^a|b$", "a*", "(a|b)*", "(^a)*b", "a($|b)", "[^a]+", ".", "^", "$", "a^b", "(a*)*b?"} {
		for _, text := range texts(4, "ab\n") {
			wantBetweenEdges(t, pattern, text)
		}
	}
	// Without the parentheses ^ and $ would hold of the outer alternatives alone.
	wantFits(t, "a|b|c", "bx", true, false)
	wantFits(t, "a|b|c", "xb", true, false)
	wantFits(t, "a|b|c", "b", true, true)
	for _, many := range []int{251, 252, 253, 254, 256} {
		wantFits(t, long(many), long(many), true, true)
		wantFits(t, long(many-1)+"|", long(many-1), true, true)
	}
}

// P10.1: what is no pattern by itself is none for Whole, though it be one between ^( and )$.
func TestNoPatternBetweenEdges(t *testing.T) {
	for _, pattern := range []string{"a)(b", "a)|(b", ")(", "a)*(b"} {
		if _, e := regex.Compile("^(" + pattern + ")$"); e != api.OK {
			t.Fatalf("%q: %d", pattern, e)
		}
		for _, text := range []string{"", "a", "ab", "b"} {
			wantErrno(t, pattern, text, api.ErrForm)
		}
	}
}

// P10.1: of many patterns without ^ and $ Find is Whole of some part.
func TestParts(t *testing.T) {
	for _, pattern := range []string{"", "a", "ab", "a|ab", "a|", "(a|b)*", "b+a", "aa?b", "[^a]b", "..", "(ab|ba)+", "(a*)*b", "abab", `\a\b`, "()*a", "[a-b]b[ab]"} {
		for _, text := range texts(6, "ab") {
			wantOfParts(t, pattern, text)
		}
	}
}

// P10.1, P10.2: grown patterns of all forms, told as the tree tells it.
func TestTrees(t *testing.T) {
	many := 5000
	if testing.Short() {
		many = 1000
	}
	var told [3]int // how many texts have a part that fits, fit as a whole, and do neither
	eachTree(many, 10, true, func(n *node, pattern string, texts []string) {
		for _, text := range texts {
			find, whole := n.find(text), n.whole(text)
			wantFits(t, pattern, text, find, whole)
			wantBetweenEdges(t, pattern, text)
			switch {
			case whole:
				told[1]++
			case find:
				told[0]++
			default:
				told[2]++
			}
		}
	})
	for i, n := range told {
		if n < many/2 {
			t.Errorf("only %d texts of sort %d", n, i)
		}
	}
}

// P10.1: grown patterns without ^ and $.
func TestTreesOfParts(t *testing.T) {
	many := 800
	if testing.Short() {
		many = 200
	}
	eachTree(many, 11, false, func(_ *node, pattern string, texts []string) {
		for _, text := range texts {
			wantOfParts(t, pattern, text)
		}
	})
}

// P10.1: all short patterns, as Go's own patterns have it; of those that are none the error is regex.Compile's.
func TestShortPatterns(t *testing.T) {
	each := func(most int, bytes, of string) {
		l := texts(3, of)
		for _, pattern := range texts(most, bytes) {
			if _, e := regex.Compile(pattern); e != api.OK {
				wantErrno(t, pattern, "a", e)
				continue
			}
			find := regexp.MustCompile(`(?s)` + pattern)
			whole := regexp.MustCompile(`(?s)\A(?:` + pattern + `)\z`)
			for _, text := range l {
				wantFits(t, pattern, text, find.MatchString(text), whole.MatchString(text))
			}
		}
	}
	each(4, "ab.|()*+?^$", "ab")
	if testing.Short() {
		return
	}
	each(6, "a|()*^$", "a")
	each(5, "ab|()*+", "ab")
	each(5, "a[]^-b", "ab-")
}

// P10.1: grown patterns, as Go's own have it, on texts of ASCII.
func TestTreesAsRegexp(t *testing.T) {
	many := 3000
	if testing.Short() {
		many = 300
	}
	r := rand.New(rand.NewSource(12))
	eachTree(many, 13, true, func(_ *node, pattern string, _ []string) {
		if strings.ContainsFunc(pattern, func(c rune) bool { return c > 127 }) {
			return
		}
		find := regexp.MustCompile(`(?s)` + pattern)
		whole := regexp.MustCompile(`(?s)\A(?:` + pattern + `)\z`)
		for range 12 {
			text := randomText(r, "aab*\x00", 20)
			wantFits(t, pattern, text, find.MatchString(text), whole.MatchString(text))
		}
	})
}
