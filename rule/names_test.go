package rule_test

import (
	"math/rand"
	"slices"
	"testing"

	"viaticum/api"
	"viaticum/rule"
)

func wantNames(t *testing.T, l []api.Pred, want ...string) {
	t.Helper()
	if got := rule.Names(l); !slices.Equal(got, want) {
		t.Errorf("%.300v: got %q, want %q", l, got, want)
	}
}

// P14.1: the names of all variables, rising, each once.
func TestNames(t *testing.T) {
	wantNames(t, nil)
	wantNames(t, body())
	wantNames(t, body(pred("p"), pred("q", nums(8)...)))
	wantNames(t, body(of("p", "x")), "x")
	wantNames(t, body(of("p", "x", "x", "x"), of("q", "x")), "x")
	wantNames(t, body(of("p", "z", "y", "x")), "x", "y", "z")
	wantNames(t, body(of("p", "z"), of("q", "y"), of("r", "x")), "x", "y", "z")
	wantNames(t, body(of("p", "a", "ab", "A", "a1", "a_", "b", "a:")), "A", "a", "a1", "a:", "a_", "ab", "b")
	wantNames(t, body(pred("p", num(1), variable("b"), text("c"), variable("a")), pred("d")), "a", "b")
	wantNames(t, body(of("p", "y", "x"), of("q", "x", "w"), of("r", "y", "w")), "w", "x", "y")
}

// P14.1: the terms of l are those of its predicates; what lies in a set is the set's.
func TestNamesInSets(t *testing.T) {
	wantNames(t, body(pred("p", set(variable("x")))))
	wantNames(t, body(pred("p", set(variable("x"), variable("y")), variable("z")), pred("q", set(set(variable("w"))))), "z")
	wantNames(t, body(pred("p", itself(), variable("z"))), "z")
}

// P14.1: other kinds of terms have no names, whatever else they have.
func TestNamesOfOtherKinds(t *testing.T) {
	for kind := -2; kind < 10; kind++ {
		l := body(pred("p", api.Term{Kind: kind, N: 1, S: "x"}))
		if kind == api.TVar {
			wantNames(t, l, "x")
			continue
		}
		wantNames(t, l)
	}
}

// P14.1: Names asks nothing of what may be.
func TestNamesOfWhatMayNotBe(t *testing.T) {
	wantNames(t, body(of("", "x"), of("true", "y"), of("p", "", "9")), "", "9", "x", "y")
	wantNames(t, slices.Repeat(body(of("p", "b", "a")), 5000), "a", "b")
	wantNames(t, body(of("p", "9", "8", "7", "6", "5", "4", "3", "2", "1")), "1", "2", "3", "4", "5", "6", "7", "8", "9")
}

// P14.1: against a plain count.
func TestNamesOfMany(t *testing.T) {
	r := rand.New(rand.NewSource(14))
	for range 2000 {
		var l []api.Pred
		there := map[string]bool{}
		for range r.Intn(5) {
			p := pred("p")
			for range r.Intn(9) {
				name := string(rune('a' + r.Intn(12)))
				if r.Intn(3) == 0 {
					p.Terms = append(p.Terms, text(name))
					continue
				}
				p.Terms = append(p.Terms, variable(name))
				there[name] = true
			}
			l = append(l, p)
		}
		var sorted []string
		for c := 'a'; c <= 'z'; c++ {
			if there[string(c)] {
				sorted = append(sorted, string(c))
			}
		}
		wantNames(t, l, sorted...)
	}
}

// R2: what is told is the caller's own.
func TestNamesAreNew(t *testing.T) {
	l := roomy(body(of("p", "b", "a"), of("q", "a")))
	before := whole(l)
	got := rule.Names(l)
	for i := range got[:cap(got)] {
		got[:cap(got)][i] = "other"
	}
	if !slices.Equal(before, whole(l)) {
		t.Error("the predicates are changed")
	}
	wantNames(t, l, "a", "b")
}
