package rule

import (
	"slices"

	"viaticum/api"
	"viaticum/term"
)

// Same tells whether a and b are alike in all, in order.
func Same(a, b api.Block) bool {
	return slices.EqualFunc(a.Facts, b.Facts, samePred) &&
		slices.EqualFunc(a.Rules, b.Rules, sameRule) &&
		slices.EqualFunc(a.Checks, b.Checks, sameCheck) &&
		slices.Equal(a.Scopes, b.Scopes)
}

// SamePolicy tells whether a and b are alike in all, in order.
func SamePolicy(a, b api.Policy) bool {
	return a.Allow == b.Allow && sameQueries(a.Queries, b.Queries)
}

func sameCheck(a, b api.Check) bool {
	return a.All == b.All && sameQueries(a.Queries, b.Queries)
}

func sameQueries(a, b []api.Rule) bool {
	return slices.EqualFunc(a, b, sameRule)
}

func sameRule(a, b api.Rule) bool {
	return samePred(a.Head, b.Head) &&
		slices.EqualFunc(a.Body, b.Body, samePred) &&
		slices.EqualFunc(a.Exprs, b.Exprs, sameExpr) &&
		slices.Equal(a.Scopes, b.Scopes)
}

func samePred(a, b api.Pred) bool {
	return a.Name == b.Name && slices.EqualFunc(a.Terms, b.Terms, term.Same)
}

func sameExpr(a, b api.Expr) bool {
	return slices.EqualFunc(a.Ops, b.Ops, sameOp)
}

func sameOp(a, b api.Op) bool {
	return a.Kind == b.Kind && a.Code == b.Code && a.Skip == b.Skip && term.Same(a.Term, b.Term)
}
