package rule_test

import (
	"slices"
	"testing"

	"viaticum/api"
	"viaticum/rule"
)

// wantRule asks whether r may be as a rule; and as a query, once its head is left out.
func wantRule(t *testing.T, what string, r api.Rule, may, asked bool) {
	t.Helper()
	want(t, what, rule.May, r, may)
	r.Head = api.Pred{}
	want(t, what+", as a query", rule.MayQuery, r, asked)
}

// P14.2: the chapter's example.
func TestExample(t *testing.T) {
	want(t, "right($x) <- owner($y)", rule.May, api.Rule{Head: of("right", "x"), Body: body(of("owner", "y"))}, false)
	want(t, "right($x) <- owner($x)", rule.May, api.Rule{Head: of("right", "x"), Body: body(of("owner", "x"))}, true)
}

// P14.2: ordinary rules and queries.
func TestRules(t *testing.T) {
	wantRule(t, "with all", made(), true, true)
	wantRule(t, "nothing", api.Rule{}, false, false)
	wantRule(t, "a head and a body", api.Rule{Head: pred("p"), Body: body(pred("q"))}, true, true)
	wantRule(t, "empty lists", api.Rule{Head: api.Pred{Name: "p", Terms: []api.Term{}}, Body: body(api.Pred{Name: "q", Terms: []api.Term{}}), Exprs: []api.Expr{}, Scopes: []api.Scope{}}, true, true)
	wantRule(t, "a scope alone", api.Rule{Head: pred("p"), Scopes: []api.Scope{{Kind: api.SAuthority}}}, false, false)
}

// P14.2: a query has no head.
func TestHeadsOfQueries(t *testing.T) {
	for _, head := range []api.Pred{pred("p"), pred("p", num(1)), pred("", num(1)), pred("", api.Term{}), pred(" "), pred("true"), pred("\x00")} {
		want(t, "with a head", rule.MayQuery, api.Rule{Head: head, Body: body(pred("q"))}, false)
		want(t, "with a head, of expressions", rule.MayQuery, api.Rule{Head: head, Exprs: exprs(holds())}, false)
	}
	want(t, "an empty list", rule.MayQuery, api.Rule{Head: api.Pred{Terms: []api.Term{}}, Body: body(pred("q"))}, true)
	want(t, "room", rule.MayQuery, api.Rule{Head: api.Pred{Terms: nums(3)[:0]}, Body: body(pred("q"))}, true)
}

// P14.2: a rule has a head that may be.
func TestHeads(t *testing.T) {
	with := func(head api.Pred) api.Rule { return api.Rule{Head: head, Body: body(of("q", "x"))} }
	for _, s := range wrongNames() {
		want(t, "the head's name", rule.May, with(pred(s)), false)
		want(t, "the head's name", rule.May, with(of(s, "x")), false)
	}
	for _, x := range wrongTerms() {
		each(variable("x"), x, func(l []api.Term) { want(t, "the head's terms", rule.May, with(pred("p", l...)), false) })
	}
	for n := range 2 * api.MaxTerms {
		want(t, "as many terms", rule.May, with(pred("p", nums(n)...)), n <= api.MaxTerms)
	}
	want(t, "the head's terms", rule.May, with(pred("p", variable("x"), text("a"), set(nums(2)...), variable("x"))), true)
}

// P14.2: each name of the head is one of the body.
func TestNamesOfHeads(t *testing.T) {
	for _, x := range []struct {
		head api.Pred
		body []api.Pred
		may  bool
	}{
		{of("p"), body(of("q", "x")), true},
		{of("p", "x"), body(of("q", "x")), true},
		{of("p", "x"), body(pred("q")), false},
		{of("p", "x"), body(pred("x")), false},
		{of("p", "x"), body(pred("q", text("x"))), false},
		{of("p", "x"), body(of("q", "X")), false},
		{of("p", "x"), body(of("q", "xx")), false},
		{of("p", "xx"), body(of("q", "x")), false},
		{of("p", "x", "x"), body(of("q", "x")), true},
		{of("p", "x", "y"), body(of("q", "x")), false},
		{of("p", "y", "x"), body(of("q", "x")), false},
		{of("p", "x", "y"), body(of("q", "y", "x")), true},
		{of("p", "x", "y"), body(of("q", "x"), of("r", "y")), true},
		{of("p", "w", "z"), body(of("q", "x"), of("r", "y"), of("s", "z"), of("t", "w")), true},
		{of("p", "v"), body(of("q", "x"), of("r", "y"), of("s", "z"), of("t", "w")), false},
		{of("p", "a", "c"), body(of("q", "b", "d")), false},
		{pred("p", num(1)), body(pred("q")), true},
	} {
		wantRule(t, "the head's names", api.Rule{Head: x.head, Body: x.body}, x.may, true)
	}
	wantRule(t, "a name that an expression has, not the body", api.Rule{Head: of("p", "x"), Body: body(pred("q")), Exprs: exprs(same(variable("x"), num(1)))}, false, false)
}

// P14.2: how many of each.
func TestLengths(t *testing.T) {
	for n := range 20 {
		r := made()
		r.Body = slices.Repeat(r.Body[:1], n)
		wantRule(t, "predicates", r, n > 0 && n <= api.MaxBody, n > 0 && n <= api.MaxBody)
		r = made()
		r.Exprs = slices.Repeat(r.Exprs[:1], n)
		wantRule(t, "expressions", r, n <= api.MaxExprs, n <= api.MaxExprs)
		r = made()
		r.Scopes = slices.Repeat(r.Scopes[:1], n)
		wantRule(t, "scopes", r, n <= api.MaxScopes, n <= api.MaxScopes)
		wantRule(t, "expressions alone", api.Rule{Head: pred("p"), Exprs: slices.Repeat(exprs(holds()), n)}, false, n > 0 && n <= api.MaxExprs)
	}
	r := made()
	r.Body, r.Exprs, r.Scopes = slices.Repeat(r.Body[:1], api.MaxBody), slices.Repeat(r.Exprs[:1], api.MaxExprs), slices.Repeat(r.Scopes[:1], api.MaxScopes)
	wantRule(t, "as many as may be of all", r, true, true)
	r.Body, r.Exprs, r.Scopes = slices.Repeat(r.Body[:1], 1<<16), nil, nil
	wantRule(t, "very many", r, false, false)
}

// P14.2: each part may be, wherever it stands.
func TestPartsOfRules(t *testing.T) {
	for _, s := range wrongNames() {
		each(of("q", "x"), pred(s), func(l []api.Pred) {
			wantRule(t, "a predicate's name", api.Rule{Head: pred("p"), Body: l}, false, false)
		})
	}
	for _, x := range wrongTerms() {
		each(of("q", "x"), pred("q", x), func(l []api.Pred) {
			wantRule(t, "a predicate's term", api.Rule{Head: pred("p"), Body: l}, false, false)
		})
		each(holds(), alone(x), func(l []api.Expr) {
			wantRule(t, "an expression's term", api.Rule{Head: pred("p"), Body: body(of("q", "x")), Exprs: l}, false, false)
		})
	}
	for _, s := range wrongScopes() {
		each(api.Scope{Kind: api.SPrevious}, s, func(l []api.Scope) {
			wantRule(t, "a scope", api.Rule{Head: pred("p"), Body: body(pred("q")), Scopes: l}, false, false)
		})
	}
	for _, e := range []api.Expr{{}, {Ops: []api.Op{}}, {Ops: []api.Op{{}}}, {Ops: []api.Op{two(api.BSame)}}, {Ops: []api.Op{put(num(1)), put(num(1))}}, {Ops: []api.Op{put(num(1)), put(num(1)), two(api.BXorBits + 1)}}, {Ops: []api.Op{{Kind: api.OTerm, Term: num(1), Skip: 1}}}} {
		each(holds(), e, func(l []api.Expr) {
			wantRule(t, "an expression", api.Rule{Head: pred("p"), Body: body(pred("q")), Exprs: l}, false, false)
			wantRule(t, "an expression, without a body", api.Rule{Head: pred("p"), Exprs: l}, false, false)
		})
	}
}

// P14.2: each name of an expression is one of the body.
func TestNamesOfExprs(t *testing.T) {
	with := func(head api.Pred, b []api.Pred, l ...api.Expr) api.Rule {
		return api.Rule{Head: head, Body: b, Exprs: l}
	}
	x := same(variable("x"), num(1))
	wantRule(t, "one that the body has", with(pred("p"), body(of("q", "x")), x), true, true)
	wantRule(t, "one that the body's last predicate has", with(pred("p"), body(pred("q"), pred("q"), of("q", "y", "x")), x), true, true)
	wantRule(t, "one that the body has not", with(pred("p"), body(of("q", "y")), x), false, false)
	wantRule(t, "one that is the body's text", with(pred("p"), body(pred("x", text("x"))), x), false, false)
	wantRule(t, "one that the head alone has", with(of("p", "x"), body(pred("q")), x), false, false)
	wantRule(t, "one that no body has", with(pred("p"), nil, x), false, false)
	wantRule(t, "two, of which the body has one", with(pred("p"), body(of("q", "x")), same(variable("x"), variable("y"))), false, false)
	wantRule(t, "two, of which the body has the other", with(pred("p"), body(of("q", "y")), same(variable("x"), variable("y"))), false, false)
	wantRule(t, "two that the body has", with(pred("p"), body(of("q", "y"), of("r", "x")), same(variable("x"), variable("y"))), true, true)
	wantRule(t, "one that is left out when it is asked", with(pred("p"), body(of("q", "y")), api.Expr{Ops: []api.Op{put(api.Term{Kind: api.TBool}), {Kind: api.OAnd, Skip: 1}, put(variable("x"))}}), false, false)
	each(holds(), x, func(l []api.Expr) {
		wantRule(t, "in a list", with(pred("p"), body(pred("q")), l...), false, false)
		wantRule(t, "in a list", with(pred("p"), body(of("q", "x")), l...), true, true)
		wantRule(t, "in a list, without a body", with(pred("p"), nil, l...), false, false)
	})
}

// P14.2: a rule has a body; a query may go without, if it has an expression.
func TestWithoutABody(t *testing.T) {
	for _, none := range [][]api.Pred{nil, {}, body(pred("q"))[:0]} {
		wantRule(t, "an expression alone", api.Rule{Head: pred("p"), Body: none, Exprs: exprs(holds())}, false, true)
		wantRule(t, "neither", api.Rule{Head: pred("p"), Body: none, Exprs: exprs(holds())[:0]}, false, false)
		wantRule(t, "neither, but scopes", api.Rule{Head: pred("p"), Body: none, Scopes: []api.Scope{key(32)}}, false, false)
	}
}
