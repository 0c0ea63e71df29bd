package expr_test

import (
	"fmt"
	"slices"
	"strings"
	"testing"

	"viaticum/api"
	"viaticum/expr"
)

const (
	least = -1 << 63
	most  = 1<<63 - 1
)

func variable(s string) api.Term { return api.Term{Kind: api.TVar, S: s} }
func num(n int64) api.Term       { return api.Term{Kind: api.TInt, N: n} }
func text(s string) api.Term     { return api.Term{Kind: api.TText, S: s} }
func date(n int64) api.Term      { return api.Term{Kind: api.TDate, N: n} }
func raw(s string) api.Term      { return api.Term{Kind: api.TBytes, S: s} }

func truth(is bool) api.Term {
	if is {
		return api.Term{Kind: api.TBool, N: 1}
	}
	return api.Term{Kind: api.TBool}
}

// set is a TSet of these terms as they stand, whether it may be or not.
func set(l ...api.Term) api.Term { return api.Term{Kind: api.TSet, L: l} }

func put(t api.Term) api.Op   { return api.Op{Kind: api.OTerm, Term: t} }
func one(code int) api.Op     { return api.Op{Kind: api.OUnary, Code: code} }
func two(code int) api.Op     { return api.Op{Kind: api.OBinary, Code: code} }
func and(skip int) api.Op     { return api.Op{Kind: api.OAnd, Skip: skip} }
func or(skip int) api.Op      { return api.Op{Kind: api.OOr, Skip: skip} }
func of(l ...api.Op) api.Expr { return api.Expr{Ops: l} }

func n(of int64) api.Op    { return put(num(of)) }
func name(s string) api.Op { return put(variable(s)) }
func is(truly bool) api.Op { return put(truth(truly)) }
func bind(l ...any) api.Bind { // names and terms, in turn
	var b api.Bind
	for i := 0; i < len(l); i += 2 {
		b.Names = append(b.Names, l[i].(string))
		b.Terms = append(b.Terms, l[i+1].(api.Term))
	}
	return b
}

// byZero is three operations that fail, once they are done: ErrZero.
func byZero() []api.Op { return []api.Op{n(1), n(0), two(api.BDiv)} }

// after is these operations, one list behind the other.
func after(l ...[]api.Op) api.Expr { return api.Expr{Ops: slices.Concat(l...)} }

// many are so many operations that leave one term: a truth, and what turns it round.
func many(ops int) []api.Op {
	var l []api.Op
	for i := range ops {
		if i == 0 {
			l = append(l, is(true))
			continue
		}
		l = append(l, one(api.UNot))
	}
	return l
}

// alike says whether two terms are the same in all and to the ground, by other means than the project's; nil and empty lists are one.
func alike(a, b api.Term) bool {
	return a.Kind == b.Kind && a.N == b.N && a.S == b.S && slices.EqualFunc(a.L, b.L, alike)
}

// fixed are terms of each kind that may be and are no variables.
func fixed() []api.Term {
	return []api.Term{
		num(least), num(-1), num(0), num(1), num(most), text(""), text("a"), text(strings.Repeat("a", api.MaxText)), date(0), date(253402300799),
		raw(""), raw("\x00"), raw(strings.Repeat("a", api.MaxText)), truth(false), truth(true), set(), set(num(1)), set(num(1), num(2)), set(text("a"), text("b")), set(truth(false), truth(true)),
	}
}

// unfixed are terms that may not be.
func unfixed() []api.Term {
	own := make([]api.Term, 1)
	own[0] = set(own...)
	var long []api.Term
	for i := range api.MaxSet + 1 {
		long = append(long, num(int64(i)))
	}
	return []api.Term{
		{}, {N: 1}, {S: "x"}, {Kind: 8}, {Kind: -1}, {Kind: most}, {Kind: least},
		variable(""), variable("9"), variable("_"), variable("hex:"), variable(strings.Repeat("a", 33)), {Kind: api.TVar, N: 1, S: "x"}, {Kind: api.TVar, S: "x", L: own},
		{Kind: api.TInt, S: "a"}, {Kind: api.TInt, L: own}, text(strings.Repeat("a", api.MaxText+1)), {Kind: api.TText, N: 1}, raw(strings.Repeat("a", api.MaxText+1)),
		date(-1), date(253402300800), {Kind: api.TBool, N: 2}, {Kind: api.TBool, N: -1}, set(num(2), num(1)), set(num(1), num(1)), set(num(1), text("a")), set(variable("x")), set(set()), own[0], set(long...), {Kind: api.TSet, N: 1},
	}
}

// wantMay wants just this of May, and that all other calls take e for what may be, or for what may not.
func wantMay(t *testing.T, want bool, l ...api.Expr) {
	t.Helper()
	for _, e := range l {
		if expr.May(e) != want {
			t.Errorf("May(%s): want %v", brief(e), want)
		}
		got, x := expr.Eval(e, api.Bind{})
		isTrue, y := expr.True(e, api.Bind{})
		if (x == api.ErrArg) == want || (y == api.ErrArg) == want || x != api.OK && !alike(got, api.Term{}) || y != api.OK && isTrue {
			t.Errorf("%s: got %s, %d and %v, %d", brief(e), brief(got), x, isTrue, y)
		}
		if !want && expr.Names(e) != nil {
			t.Errorf("Names(%s): %v", brief(e), expr.Names(e))
		}
	}
}

// wantMayBind wants just this of MayBind, and that all other calls take b so.
func wantMayBind(t *testing.T, want bool, l ...api.Bind) {
	t.Helper()
	for _, b := range l {
		if expr.MayBind(b) != want {
			t.Errorf("MayBind(%s): want %v", brief(b), want)
		}
		got, x := expr.Eval(of(n(1)), b)
		isTrue, y := expr.True(of(is(true)), b)
		wantTerm, wantErr := num(1), api.OK
		if !want {
			wantTerm, wantErr = api.Term{}, api.ErrArg
		}
		if !alike(got, wantTerm) || x != wantErr || isTrue != want || y != wantErr {
			t.Errorf("bound to %s: got %s, %d and %v, %d", brief(b), brief(got), x, isTrue, y)
		}
		for i, name := range b.Names {
			got, ok := expr.Look(b, name)
			if ok != want || ok && !alike(got, b.Terms[i]) || !ok && (!alike(got, api.Term{}) || got.L != nil) {
				t.Errorf("Look(%s, %q): got %s, %v", brief(b), name, brief(got), ok)
			}
		}
	}
}

// wantEval wants this term, and of True what follows of it.
func wantEval(t *testing.T, e api.Expr, b api.Bind, want api.Term) {
	t.Helper()
	if got, x := expr.Eval(e, b); !alike(got, want) || x != api.OK {
		t.Errorf("Eval(%s): got %s, %d, want %s", brief(e), brief(got), x, brief(want))
	}
	wantTrue, wantErr := want.N == 1, api.OK
	if want.Kind != api.TBool {
		wantTrue, wantErr = false, api.ErrType
	}
	if got, x := expr.True(e, b); got != wantTrue || x != wantErr {
		t.Errorf("True(%s): got %v, %d, want %v, %d", brief(e), got, x, wantTrue, wantErr)
	}
}

// wantNone wants this error of Eval and True, and nothing beside it.
func wantNone(t *testing.T, e api.Expr, b api.Bind, want api.Errno) {
	t.Helper()
	if got, x := expr.Eval(e, b); !alike(got, api.Term{}) || got.L != nil || x != want {
		t.Errorf("Eval(%s): got %s, %d, want %d", brief(e), brief(got), x, want)
	}
	if got, x := expr.True(e, b); got || x != want {
		t.Errorf("True(%s): got %v, %d, want %d", brief(e), got, x, want)
	}
}

// brief is x as a text, or its beginning: a term may hold itself.
func brief(x any) string {
	switch y := x.(type) {
	case api.Term:
		return briefTerm(y, 3)
	case api.Expr:
		var l []string
		for _, o := range y.Ops[:min(len(y.Ops), 40)] {
			l = append(l, fmt.Sprintf("{%d %s %d %d}", o.Kind, briefTerm(o.Term, 3), o.Code, o.Skip))
		}
		return fmt.Sprint(len(y.Ops), " operations: ", strings.Join(l, " "))
	case api.Bind:
		var l []string
		for _, x := range y.Terms[:min(len(y.Terms), 40)] {
			l = append(l, briefTerm(x, 3))
		}
		return fmt.Sprintf("%.400q to %s", y.Names[:min(len(y.Names), 40)], strings.Join(l, " "))
	}
	return fmt.Sprint(x)
}

func briefTerm(t api.Term, depth int) string {
	s := fmt.Sprintf("(%d %d %q", t.Kind, t.N, t.S[:min(len(t.S), 40)])
	for _, x := range t.L[:min(len(t.L), 20)] {
		if depth == 0 {
			break
		}
		s += " " + briefTerm(x, depth-1)
	}
	return s + ")"
}

// numbered is a name of its own for each of 0 to 99; they rise as the numbers do.
func numbered(i int) string { return fmt.Sprintf("a%02d", i) }
