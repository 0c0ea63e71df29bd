package rule_test

import (
	"reflect"
	"slices"
	"strings"
	"testing"

	"viaticum/api"
)

const (
	least = -1 << 63
	most  = 1<<63 - 1
)

func variable(s string) api.Term { return api.Term{Kind: api.TVar, S: s} }
func num(n int64) api.Term       { return api.Term{Kind: api.TInt, N: n} }
func text(s string) api.Term     { return api.Term{Kind: api.TText, S: s} }
func set(l ...api.Term) api.Term { return api.Term{Kind: api.TSet, L: l} }

// nums are n terms.
func nums(n int) []api.Term {
	var l []api.Term
	for i := range n {
		l = append(l, num(int64(i)))
	}
	return l
}

// itself is a set that holds itself.
func itself() api.Term {
	l := make([]api.Term, 1)
	l[0] = set(l...)
	return l[0]
}

func pred(name string, l ...api.Term) api.Pred { return api.Pred{Name: name, Terms: l} }

// of is a predicate of variables.
func of(name string, variables ...string) api.Pred {
	p := api.Pred{Name: name}
	for _, s := range variables {
		p.Terms = append(p.Terms, variable(s))
	}
	return p
}

func put(t api.Term) api.Op { return api.Op{Kind: api.OTerm, Term: t} }
func two(code int) api.Op   { return api.Op{Kind: api.OBinary, Code: code} }

// same is the expression that a is b.
func same(a, b api.Term) api.Expr {
	return api.Expr{Ops: []api.Op{put(a), put(b), two(api.BSame)}}
}

// alone is the expression of a term alone.
func alone(t api.Term) api.Expr { return api.Expr{Ops: []api.Op{put(t)}} }

// holds is an expression that may be, of no name.
func holds() api.Expr { return same(num(1), num(1)) }

func key(n int) api.Scope { return api.Scope{Kind: api.SKey, Key: strings.Repeat("k", n)} }

func body(l ...api.Pred) []api.Pred  { return l }
func exprs(l ...api.Expr) []api.Expr { return l }

func ask(l ...api.Pred) api.Rule { return api.Rule{Body: l} }

// made is a rule that may be, with something in each place.
func made() api.Rule {
	return api.Rule{
		Head:   pred("right", variable("x"), text("read")),
		Body:   body(pred("owner", variable("x"), variable("y")), pred("time", set(num(1), num(2)), variable("y"))),
		Exprs:  exprs(same(variable("y"), num(5)), api.Expr{Ops: []api.Op{put(api.Term{Kind: api.TBool}), {Kind: api.OOr, Skip: 1}, put(variable("x"))}}),
		Scopes: []api.Scope{{Kind: api.SAuthority}, key(32)},
	}
}

// query is made without a head.
func query() api.Rule {
	r := made()
	r.Head = api.Pred{}
	return r
}

// block is a block that may be, with something in each place.
func block() api.Block {
	return api.Block{
		Facts:  body(pred("user", num(1)), pred("p"), pred("group", set(text("a"), text("b")))),
		Rules:  []api.Rule{made(), {Head: pred("q"), Body: body(pred("p"))}},
		Checks: []api.Check{{Queries: []api.Rule{query(), ask(pred("p"))}}, {All: true, Queries: []api.Rule{query()}}},
		Scopes: []api.Scope{{Kind: api.SPrevious}, key(32)},
	}
}

func policy() api.Policy {
	return api.Policy{Allow: true, Queries: []api.Rule{query(), ask(pred("p"))}}
}

// wrongTerms may not be terms.
func wrongTerms() []api.Term {
	return []api.Term{
		{}, {Kind: 8}, {Kind: -1}, variable(""), variable("9"), variable("hex:a"), variable(strings.Repeat("a", 33)),
		text(strings.Repeat("a", api.MaxText+1)), {Kind: api.TDate, N: -1}, {Kind: api.TBool, N: 2}, {Kind: api.TInt, S: "a"},
		set(num(2), num(1)), set(variable("x")), set(set()), set(nums(17)...), itself(),
	}
}

// wrongNames may not be names of predicates.
func wrongNames() []string {
	return []string{"", "true", "false", "9", "_a", "hex:", "hex:a", "a b", "é", strings.Repeat("a", 33), strings.Repeat("a", 1<<16)}
}

// wrongScopes may not be scopes.
func wrongScopes() []api.Scope {
	return []api.Scope{
		{}, {Kind: -1}, {Kind: 4}, {Kind: most}, {Kind: least}, {Kind: 256 + api.SAuthority}, {Key: key(32).Key}, {Kind: 4, Key: key(32).Key},
		{Kind: api.SAuthority, Key: "k"}, {Kind: api.SPrevious, Key: "k"}, {Kind: api.SAuthority, Key: key(32).Key}, {Kind: api.SPrevious, Key: key(32).Key},
		key(0), key(1), key(31), key(33), key(64), key(1 << 16),
	}
}

// each calls do with lists of one to three things, one of them wrong: at the beginning, in the middle, at the end, alone.
func each[T any](right, wrong T, do func(l []T)) {
	for n := 1; n <= 3; n++ {
		for i := range n {
			l := slices.Repeat([]T{right}, n)
			l[i] = wrong
			do(l)
		}
	}
}

func want[T any](t *testing.T, what string, may func(T) bool, x T, want bool) {
	t.Helper()
	if may(x) != want {
		t.Errorf("%s: %.300v: want %v", what, x, want)
	}
}

// roomy is a copy of x whose lists have room, with something within it.
func roomy[T any](x T) T {
	to := reflect.New(reflect.TypeOf(x)).Elem()
	copyRoomy(to, reflect.ValueOf(x))
	return to.Interface().(T)
}

func copyRoomy(to, from reflect.Value) {
	switch from.Kind() {
	case reflect.Struct:
		for i := range from.NumField() {
			copyRoomy(to.Field(i), from.Field(i))
		}
	case reflect.Slice:
		n := from.Len()
		l := reflect.MakeSlice(from.Type(), n+3, n+3)
		for i := range n {
			copyRoomy(l.Index(i), from.Index(i))
		}
		for i := n; i < n+3; i++ {
			fill(l.Index(i))
		}
		to.Set(l.Slice(0, n))
	default:
		to.Set(from)
	}
}

// fill sets all that is not a list to what may be nowhere.
func fill(v reflect.Value) {
	switch v.Kind() {
	case reflect.Struct:
		for i := range v.NumField() {
			fill(v.Field(i))
		}
	case reflect.String:
		v.SetString("behind")
	case reflect.Int, reflect.Int64:
		v.SetInt(77)
	case reflect.Bool:
		v.SetBool(true)
	}
}

// whole is x with all that lies behind its lists' lengths.
func whole(x any) []any {
	var l []any
	var walk func(v reflect.Value)
	walk = func(v reflect.Value) {
		switch v.Kind() {
		case reflect.Struct:
			for i := range v.NumField() {
				walk(v.Field(i))
			}
		case reflect.Slice:
			l = append(l, v.Len(), v.Cap())
			v = v.Slice(0, v.Cap())
			for i := range v.Len() {
				walk(v.Index(i))
			}
		default:
			l = append(l, v.Interface())
		}
	}
	walk(reflect.ValueOf(x))
	return l
}
