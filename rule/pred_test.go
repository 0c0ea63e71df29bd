package rule_test

import (
	"slices"
	"strings"
	"testing"

	"viaticum/api"
	"viaticum/rule"
)

func wantPred(t *testing.T, p api.Pred, may, fact bool) {
	t.Helper()
	want(t, "MayPred", rule.MayPred, p, may)
	want(t, "MayFact", rule.MayFact, p, fact)
}

// P14.1: a predicate's name.
func TestPredNames(t *testing.T) {
	for _, s := range []string{"p", "right", "Z9_:x", "a:", "hex", "trusting", "truely", "tru", "True", "FALSE", "falsely", "fals", "true_", "true:", strings.Repeat("a", 32)} {
		wantPred(t, pred(s), true, true)
		wantPred(t, pred(s, num(1)), true, true)
		wantPred(t, pred(s, variable("x")), true, false)
	}
	for _, s := range wrongNames() {
		wantPred(t, pred(s), false, false)
		wantPred(t, pred(s, num(1)), false, false)
		wantPred(t, pred(s, variable("x")), false, false)
	}
}

// P14.1: the names of variables are not those of predicates.
func TestVariablesNamedTrue(t *testing.T) {
	wantPred(t, of("p", "true", "false"), true, false)
}

// P14.1: how many terms.
func TestPredTerms(t *testing.T) {
	for n := range 2*api.MaxTerms + 2 {
		may := n <= api.MaxTerms
		wantPred(t, pred("p", nums(n)...), may, may)
		wantPred(t, pred("p", slices.Repeat([]api.Term{variable("x")}, n)...), may, n == 0)
	}
	wantPred(t, pred("p", nums(1000)...), false, false)
	wantPred(t, api.Pred{Name: "p", Terms: []api.Term{}}, true, true)
}

// P14.1: which terms.
func TestTermsOfPreds(t *testing.T) {
	for _, x := range []api.Term{num(least), num(most), text(""), text("a"), {Kind: api.TDate, N: 1}, {Kind: api.TBytes, S: "\xff"}, {Kind: api.TBool, N: 1}, set(), set(nums(16)...)} {
		each(num(1), x, func(l []api.Term) { wantPred(t, pred("p", l...), true, true) })
	}
	for _, x := range wrongTerms() {
		each(num(1), x, func(l []api.Term) { wantPred(t, pred("p", l...), false, false) })
		each(variable("x"), x, func(l []api.Term) { wantPred(t, pred("p", l...), false, false) })
	}
}

// P14.1: a fact has no variables.
func TestVariablesInFacts(t *testing.T) {
	each(num(1), variable("x"), func(l []api.Term) { wantPred(t, pred("p", l...), true, false) })
	wantPred(t, pred("p", append(nums(api.MaxTerms-1), variable("x"))...), true, false)
	wantPred(t, pred("p", set(variable("x"))), false, false)
	wantPred(t, pred("p", set(num(1), variable("x"))), false, false)
}

// P14.1: whom one may trust.
func TestMayScope(t *testing.T) {
	for _, s := range []api.Scope{{Kind: api.SAuthority}, {Kind: api.SPrevious}, key(32), {Kind: api.SKey, Key: strings.Repeat("\x00", 32)}, {Kind: api.SKey, Key: strings.Repeat("é", 16)}} {
		want(t, "MayScope", rule.MayScope, s, true)
	}
	for _, s := range wrongScopes() {
		want(t, "MayScope", rule.MayScope, s, false)
	}
	for kind := -300; kind < 300; kind++ {
		want(t, "MayScope", rule.MayScope, api.Scope{Kind: kind}, kind == api.SAuthority || kind == api.SPrevious)
		want(t, "MayScope", rule.MayScope, api.Scope{Kind: kind, Key: key(32).Key}, kind == api.SKey)
	}
}
