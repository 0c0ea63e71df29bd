package match_test

import (
	"strconv"
	"strings"
	"testing"
	"time"

	"viaticum/api"
	"viaticum/match"
	"viaticum/regex"
)

// tangled are patterns in which the same bytes a fit in very many ways; all of them lack a z that has to stand behind.
func tangled() []string {
	return []string{
		"(a*)*z", "(a+)+z", "(a|a)*z", "(a|a|a|a)+z", "(a|aa|aaa)*z", "(a?)*z", "((a*)*)*z", "((a+)+)+z", "(a*a*)*z", "(a|a?)+z", "(.*)*z", "(.|a|[^b])*z", "(|a)+z", "(()|a)*z",
		"(a?)*(a?)*(a?)*(a?)*z", "(a|a)*(a|a)*(a|a)*z", ".*.*.*.*.*.*.*.*z", "a*a*a*a*a*a*a*a*z", "(a*a*a*a*)*(a*a*)*z",
		strings.Repeat("a?", 127) + "z",
		strings.Repeat("a*", 127) + "z",
		strings.Repeat(".*", 127) + "z",
		strings.Repeat("(a?)*", 51) + "z",
		strings.Repeat("(a|a)*", 42) + "z",
		strings.Repeat("(|a)+", 51) + "z",
		strings.Repeat("(", 20) + "a" + strings.Repeat("*)", 20) + "*z",
		strings.Repeat("(", 20) + "a" + strings.Repeat("+)", 20) + "+z",
		strings.Repeat("(", 20) + "a|a" + strings.Repeat(")*", 20) + "z",
		"(" + strings.Repeat("a|", 125) + "a)*z",
		"(" + strings.Repeat("|", 250) + "a)*z",
	}
}

// P10.2: the same bytes fit in very many ways: to go them one by one would not end.
func TestManyWays(t *testing.T) {
	for _, pattern := range tangled() {
		ends(t, pattern, func() {
			wantFits(t, pattern, long(256), false, false)
			wantFits(t, pattern, long(255)+"b", false, false)
			wantFits(t, pattern, long(255)+"z", true, takesAll(pattern))
			wantFits(t, strings.TrimSuffix(pattern, "z"), long(256), true, takesAll(pattern))
		})
	}
}

// takesAll tells whether a tangled pattern takes any number of bytes a ahead of its z.
func takesAll(pattern string) bool {
	return !strings.HasPrefix(pattern, "a?")
}

// P10.2: a way that ends at the last step there is, and bytes that fit up to there.
func TestManyBounded(t *testing.T) {
	for _, many := range []int{1, 2, 20, 60, 84} {
		pattern := strings.Repeat("a?", many) + strings.Repeat("a", many)
		ends(t, pattern, func() {
			wantFits(t, pattern, long(many-1), false, false)
			wantFits(t, pattern, long(many), true, true)
			wantFits(t, pattern, long(2*many), true, true)
			wantFits(t, pattern, long(2*many+1), true, false)
			wantFits(t, "^"+pattern+"$", long(2*many+1), false, false)
		})
	}
}

// quickest is the shortest of several times that it takes; a machine that is busy makes the others longer.
func quickest(do func()) time.Duration {
	best := time.Hour
	for range 20 {
		begin := time.Now()
		do()
		best = min(best, time.Since(begin))
	}
	return best
}

// P10.2: Find goes through the text once, and not again from each place: it takes about as long as Whole, which has one beginning alone.
func TestFindGoesOnce(t *testing.T) {
	for _, pattern := range []string{strings.Repeat("(a?)*", 51) + "z", strings.Repeat("(a|a)*", 42) + "z", strings.Repeat("a*", 127) + "z", "(" + strings.Repeat("a|", 125) + "a)*z"} {
		text := long(256)
		find := quickest(func() { match.Find(pattern, text) })
		whole := quickest(func() { match.Whole(pattern, text) })
		if find > 30*whole {
			t.Errorf("%q: Find %v, Whole %v", pattern, find, whole)
		}
	}
}

// P10.2: the steps grow as the text does: of 16 times the bytes they are 16 times as many, and not 256 times.
func TestGrowsWithText(t *testing.T) {
	for _, pattern := range []string{strings.Repeat("(a?)*", 51) + "z", "(a|a)*(a|a)*z", ".*.*.*.*z"} {
		for name, call := range map[string]func(pattern, text string) (bool, api.Errno){"Find": match.Find, "Whole": match.Whole} {
			few := quickest(func() { call(pattern, long(16)) })
			many := quickest(func() { call(pattern, long(256)) })
			if many > 90*few {
				t.Errorf("%s of %q: %v for 16 bytes, %v for 256", name, pattern, few, many)
			}
		}
	}
}

// P10.2: the longest programs there are, with texts of each length up to the longest.
func TestLongestPrograms(t *testing.T) {
	for _, pattern := range []string{strings.Repeat("a*|", 85), strings.Repeat("(|)*", 64), strings.Repeat("^*|", 85), strings.Repeat("()*|", 64)} {
		l, e := regex.Compile(pattern)
		if e != api.OK || len(l) < 250 {
			t.Fatalf("%q: %d steps, %d", pattern, len(l), e)
		}
		isMany := strings.HasPrefix(pattern, "a*")
		ends(t, pattern, func() {
			for many := range 257 {
				wantFits(t, pattern, long(many), true, isMany || many == 0)
			}
		})
	}
}

// P10.2: counts are kept apart, however many ways stand side by side.
func TestCounts(t *testing.T) {
	for n := range 40 {
		text := long(n)
		for _, k := range []int{1, 2, 3, 5, 7} {
			pattern := "^(" + long(k) + ")*$"
			if got, e := match.Find(pattern, text); got != (n%k == 0) || e != api.OK {
				t.Errorf("%s, %d bytes: %v, %d", pattern, n, got, e)
			}
		}
		// What can be laid of threes and fives.
		isSum := n != 1 && n != 2 && n != 4 && n != 7
		t.Run(strconv.Itoa(n), func(t *testing.T) { wantFits(t, "^(aaa|aaaaa)*$", text, isSum, isSum) })
	}
}
