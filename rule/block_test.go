package rule_test

import (
	"slices"
	"testing"

	"viaticum/api"
	"viaticum/rule"
)

// wantQueries asks whether these queries may be in a check and in a policy of either kind.
func wantQueries(t *testing.T, what string, l []api.Rule, may bool) {
	t.Helper()
	for _, kind := range []bool{false, true} {
		want(t, what, rule.MayCheck, api.Check{All: kind, Queries: l}, may)
		want(t, what, rule.MayPolicy, api.Policy{Allow: kind, Queries: l}, may)
		want(t, what, rule.MayBlock, api.Block{Checks: []api.Check{{All: kind, Queries: l}}}, may)
	}
}

// wrongQueries may not be queries.
func wrongQueries() []api.Rule {
	unbound, long, trusted := query(), query(), query()
	unbound.Exprs[0] = same(variable("w"), num(1))
	long.Body = slices.Repeat(long.Body[:1], api.MaxBody+1)
	trusted.Scopes[0] = api.Scope{}
	return []api.Rule{{}, made(), {Scopes: []api.Scope{key(32)}}, ask(pred("true")), {Head: pred("p"), Body: body(pred("p"))}, unbound, long, trusted}
}

// P14.3: how many queries.
func TestNumberOfQueries(t *testing.T) {
	for n := range 20 {
		wantQueries(t, "queries", slices.Repeat([]api.Rule{query()}, n), n >= 1 && n <= 8)
	}
	wantQueries(t, "an empty list", []api.Rule{}, false)
	wantQueries(t, "very many", slices.Repeat([]api.Rule{query()}, 1<<16), false)
}

// P14.3: which queries.
func TestQueries(t *testing.T) {
	wantQueries(t, "of one predicate", []api.Rule{ask(pred("p"))}, true)
	wantQueries(t, "of an expression", []api.Rule{{Exprs: exprs(holds())}}, true)
	for _, wrong := range wrongQueries() {
		each(query(), wrong, func(l []api.Rule) { wantQueries(t, "one that may not be", l, false) })
		wantQueries(t, "the eighth", append(slices.Repeat([]api.Rule{query()}, 7), wrong), false)
	}
}

// P14.3: how many of each a block may have.
func TestLengthsOfBlocks(t *testing.T) {
	check := api.Check{Queries: []api.Rule{query()}}
	for _, n := range []int{0, 1, 2, 4, 5, 8, 9, 31, 32, 33, 34, 64, 1000} {
		want(t, "facts", rule.MayBlock, api.Block{Facts: slices.Repeat(body(pred("p")), n)}, n <= api.MaxRules)
		want(t, "rules", rule.MayBlock, api.Block{Rules: slices.Repeat([]api.Rule{made()}, n)}, n <= api.MaxRules)
		want(t, "checks", rule.MayBlock, api.Block{Checks: slices.Repeat([]api.Check{check}, n)}, n <= api.MaxRules)
		want(t, "scopes", rule.MayBlock, api.Block{Scopes: slices.Repeat([]api.Scope{key(32)}, n)}, n <= api.MaxScopes)
	}
	full := api.Block{
		Facts:  slices.Repeat(body(pred("p")), api.MaxRules),
		Rules:  slices.Repeat([]api.Rule{made()}, api.MaxRules),
		Checks: slices.Repeat([]api.Check{check}, api.MaxRules),
		Scopes: slices.Repeat([]api.Scope{key(32)}, api.MaxScopes),
	}
	want(t, "full", rule.MayBlock, full, true)
	want(t, "empty", rule.MayBlock, api.Block{}, true)
	want(t, "with empty lists", rule.MayBlock, api.Block{Facts: []api.Pred{}, Rules: []api.Rule{}, Checks: []api.Check{}, Scopes: []api.Scope{}}, true)
	want(t, "with all", rule.MayBlock, block(), true)
}

// P14.3: each part of a block may be, wherever it stands.
func TestPartsOfBlocks(t *testing.T) {
	check := api.Check{Queries: []api.Rule{query()}}
	for _, wrong := range append(wrongQueries(), ask(pred("p")), api.Rule{Head: of("p", "x"), Body: body(of("q", "y"))}, api.Rule{Head: pred("p"), Exprs: exprs(holds())}) {
		if rule.May(wrong) {
			continue
		}
		each(made(), wrong, func(l []api.Rule) { want(t, "a rule", rule.MayBlock, api.Block{Rules: l}, false) })
	}
	for _, wrong := range []api.Check{{}, {All: true}, {Queries: []api.Rule{made()}}, {Queries: slices.Repeat([]api.Rule{query()}, 9)}} {
		each(check, wrong, func(l []api.Check) { want(t, "a check", rule.MayBlock, api.Block{Checks: l}, false) })
	}
	for _, wrong := range []api.Pred{{}, pred("true"), of("p", "x"), pred("p", num(1), variable("x")), pred("p", nums(9)...), pred("p", set(variable("x")))} {
		each(pred("p"), wrong, func(l []api.Pred) { want(t, "a fact", rule.MayBlock, api.Block{Facts: l}, false) })
	}
	for _, wrong := range wrongScopes() {
		each(key(32), wrong, func(l []api.Scope) { want(t, "a scope", rule.MayBlock, api.Block{Scopes: l}, false) })
	}
}

// P14.3: one part that may not be among all that may.
func TestOnePartOfABlock(t *testing.T) {
	for i, change := range []func(b *api.Block){
		func(b *api.Block) { b.Facts[2].Terms[0].L[1].S = "A" },
		func(b *api.Block) { b.Rules[1].Head.Terms = []api.Term{variable("x")} },
		func(b *api.Block) { b.Checks[1].Queries[0].Exprs[1].Ops[1].Skip = 2 },
		func(b *api.Block) { b.Scopes[1].Key = "" },
	} {
		b := block()
		change(&b)
		if rule.MayBlock(b) {
			t.Error(i)
		}
	}
}
