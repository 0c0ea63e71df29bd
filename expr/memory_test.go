package expr_test

import (
	"slices"
	"testing"

	"viaticum/api"
	"viaticum/expr"
	"viaticum/term"
)

// roomy is t with lists that have room, and something that is not theirs within it.
func roomy(t api.Term) api.Term {
	l := make([]api.Term, 0, len(t.L)+20)
	for _, x := range t.L {
		l = append(l, roomy(x))
	}
	behind := l[:cap(l)]
	for i := len(l); i < len(behind); i++ {
		behind[i] = variable("behind")
	}
	t.L = l
	return t
}

// isRoomy tells whether t is as roomy makes it of want.
func isRoomy(t, want api.Term) bool {
	if t.Kind != want.Kind || t.N != want.N || t.S != want.S || len(t.L) != len(want.L) || cap(t.L) != len(t.L)+20 {
		return false
	}
	for i, x := range t.L[:cap(t.L)] {
		if i < len(t.L) && !isRoomy(x, want.L[i]) || i >= len(t.L) && !alike(x, variable("behind")) {
			return false
		}
	}
	return true
}

func roomyExpr(e api.Expr) api.Expr {
	l := make([]api.Op, len(e.Ops), len(e.Ops)+20)
	for i, o := range e.Ops {
		o.Term = roomy(o.Term)
		l[i] = o
	}
	behind := l[len(l):cap(l)]
	for i := range behind {
		behind[i] = one(api.UNot)
	}
	return api.Expr{Ops: l}
}

func isRoomyExpr(e, want api.Expr) bool {
	if len(e.Ops) != len(want.Ops) {
		return false
	}
	for i, o := range e.Ops {
		w := want.Ops[i]
		if o.Kind != w.Kind || o.Code != w.Code || o.Skip != w.Skip || !isRoomy(o.Term, w.Term) {
			return false
		}
	}
	for _, o := range e.Ops[len(e.Ops):cap(e.Ops)] {
		if o.Kind != api.OUnary || o.Code != api.UNot || o.Skip != 0 || !alike(o.Term, api.Term{}) {
			return false
		}
	}
	return true
}

func roomyBind(b api.Bind) api.Bind {
	names := append(make([]string, 0, len(b.Names)+20), b.Names...)
	terms := make([]api.Term, 0, len(b.Terms)+20)
	for _, x := range b.Terms {
		terms = append(terms, roomy(x))
	}
	for i := len(names); i < cap(names); i++ {
		names[:cap(names)][i] = "z"
	}
	for i := len(terms); i < cap(terms); i++ {
		terms[:cap(terms)][i] = num(99)
	}
	return api.Bind{Names: names, Terms: terms}
}

func isRoomyBind(b, want api.Bind) bool {
	for _, s := range b.Names[len(b.Names):cap(b.Names)] {
		if s != "z" {
			return false
		}
	}
	for _, x := range b.Terms[len(b.Terms):cap(b.Terms)] {
		if !alike(x, num(99)) {
			return false
		}
	}
	return slices.Equal(b.Names, want.Names) && slices.EqualFunc(b.Terms, want.Terms, isRoomy)
}

// some are expressions, of which most may be, with sets in them, literally and by name.
func some() []api.Expr {
	numbers, texts := set(num(1), num(2)), set(text("a"))
	return []api.Expr{
		{}, of(n(1)), of(name("x")), of(name("z")), of(put(numbers)), of(put(set())), of(put(texts)), of(name("s")), of(name("e")), of(n(1), n(2)), of(name("x"), name("b"), two(api.BAdd), name("x"), two(api.BAdd)),
		of(put(numbers), name("s"), two(api.BJoin)), of(name("s"), name("s"), two(api.BMeet)), of(name("s"), put(set()), two(api.BJoin)), of(put(set()), put(set()), two(api.BMeet)), of(name("s"), put(texts), two(api.BJoin)),
		of(is(true), and(1), put(numbers)), of(is(false), or(3), name("s"), put(numbers), two(api.BMeet)), of(is(false), and(1), name("s")), after(byZero()), of(put(numbers), and(1), name("s")), after(many(32)), after(many(33)), of(put(set(num(2), num(1)))),
	}
}

func bindings() []api.Bind {
	return []api.Bind{none(), bind("b", num(3), "e", set(), "s", set(num(2), num(3)), "x", num(4)), bind("s", set(truth(false), truth(true))), bind("b", num(1), "a", num(2)), {Names: []string{"a"}}, bind("s", set(num(2), num(1)))}
}

// R2: no argument is changed, and what lies behind its lists is neither read nor written.
func TestGivenStays(t *testing.T) {
	for _, e := range some() {
		for _, b := range bindings() {
			ownE, ownB := roomyExpr(e), roomyBind(b)
			got, x := expr.Eval(ownE, ownB)
			isTrue, y := expr.True(ownE, ownB)
			want, wantErr := expr.Eval(e, b)
			wantTrue, wantTrueErr := expr.True(e, b)
			if !alike(got, want) || x != wantErr || isTrue != wantTrue || y != wantTrueErr {
				t.Errorf("%s, %s: got %s, %d and %v, %d", brief(e), brief(b), brief(got), x, isTrue, y)
			}
			if expr.May(ownE) != expr.May(e) || expr.MayBind(ownB) != expr.MayBind(b) || !slices.Equal(expr.Names(ownE), expr.Names(e)) {
				t.Errorf("%s, %s: what lies behind is read", brief(e), brief(b))
			}
			for _, name := range []string{"b", "s", "z", "x"} {
				got, ok := expr.Look(ownB, name)
				if want, wantOk := expr.Look(b, name); ok != wantOk || !alike(got, want) {
					t.Errorf("%s, %q: got %s, %v", brief(b), name, brief(got), ok)
				}
			}
			if !isRoomyExpr(ownE, e) || !isRoomyBind(ownB, b) {
				t.Errorf("%s, %s: changed", brief(e), brief(b))
			}
		}
	}
}

// spoil writes over all of a term's lists, and over what lies behind them.
func spoil(t api.Term) {
	for i, x := range t.L {
		spoil(x)
		t.L[i] = variable("spoilt")
	}
	behind := t.L[len(t.L):cap(t.L)]
	for i := range behind {
		behind[i] = variable("spoilt")
	}
}

// copied is t with lists of its own.
func copied(t api.Term) api.Term {
	var l []api.Term
	for _, x := range t.L {
		l = append(l, copied(x))
	}
	t.L = l
	return t
}

// wantNew spoils what was told, and wants that nothing that was handed in, nor a second answer, is touched by it; nor an answer by what is done to what was handed in.
func wantNew(t *testing.T, tell func(e api.Expr, b api.Bind) api.Term, e api.Expr, b api.Bind) {
	t.Helper()
	ownE, ownB := roomyExpr(e), roomyBind(b)
	got, other := tell(ownE, ownB), tell(ownE, ownB)
	want := copied(got)
	spoil(got)
	if !alike(other, want) || !isRoomyExpr(ownE, e) || !isRoomyBind(ownB, b) {
		t.Fatalf("%s, %s: what it told is not new", brief(e), brief(b))
	}
	for i := range ownE.Ops {
		spoil(ownE.Ops[i].Term)
		ownE.Ops[i] = api.Op{}
	}
	for i := range ownB.Terms {
		spoil(ownB.Terms[i])
		ownB.Names[i], ownB.Terms[i] = "spoilt", variable("spoilt")
	}
	if !alike(other, want) {
		t.Fatalf("%s, %s: it kept what was handed in", brief(e), brief(b))
	}
}

// R2: a term that is told is new memory, down to the room of lists within it that are empty.
func TestToldIsNew(t *testing.T) {
	for _, e := range some() {
		for _, b := range bindings() {
			wantNew(t, func(e api.Expr, b api.Bind) api.Term { got, _ := expr.Eval(e, b); return got }, e, b)
			for _, name := range []string{"b", "e", "s", "x"} {
				wantNew(t, func(e api.Expr, b api.Bind) api.Term { got, _ := expr.Look(b, name); return got }, e, b)
			}
		}
	}
	for _, x := range fixed() {
		wantNew(t, func(e api.Expr, b api.Bind) api.Term { got, _ := expr.Eval(e, b); return got }, of(put(x)), none())
		wantNew(t, func(e api.Expr, b api.Bind) api.Term { got, _ := expr.Eval(e, b); return got }, of(name("x")), bind("x", x))
		wantNew(t, func(e api.Expr, b api.Bind) api.Term { got, _ := expr.Look(b, "x"); return got }, of(n(1)), bind("x", x))
	}
}

// R2: names that are told are a list of their own.
func TestNamesAreNew(t *testing.T) {
	e := of(name("y"), name("x"), two(api.BAdd), name("y"), two(api.BAdd))
	got := expr.Names(e)
	for i := range got[:cap(got)] {
		got[:cap(got)][i] = "spoilt"
	}
	wantNames(t, e, "x", "y")
}

// P12.4: what is told is Fixed; beside an error it is nothing.
func TestToldIsFixed(t *testing.T) {
	terms := append(append(fixed(), unfixed()...), variable("x"), variable("z"))
	for _, a := range terms {
		for _, b := range terms {
			for _, e := range []api.Expr{of(put(a)), of(put(a), one(api.ULength)), of(put(a), put(b), two(api.BAdd)), of(put(a), put(b), two(api.BJoin)), of(put(a), put(b), two(api.BMeet)), of(put(a), and(1), put(b)), of(put(a), or(1), put(b))} {
				got, x := expr.Eval(e, bind("x", b))
				if x == api.OK && !term.Fixed(got) || x != api.OK && !alike(got, api.Term{}) {
					t.Errorf("Eval(%s): got %s, %d", brief(e), brief(got), x)
				}
			}
			if got, ok := expr.Look(bind("x", a, "y", b), "x"); ok && !term.Fixed(got) || !ok && !alike(got, api.Term{}) {
				t.Errorf("Look: got %s", brief(got))
			}
		}
	}
}

// R6: an answer hangs on nothing that went ahead, nor on what goes on beside it.
func TestNothingIsKept(t *testing.T) {
	e := of(name("x"), n(2), two(api.BMul), name("s"), one(api.ULength), two(api.BAdd))
	numbers := set(num(1), num(2))
	for range 8 {
		t.Run("", func(t *testing.T) {
			t.Parallel()
			for i := range int64(200) {
				wantEval(t, e, bind("s", numbers, "x", num(i)), num(2*i+2))
				wantNone(t, e, bind("s", numbers), api.ErrName)
				wantNone(t, e, bind("s", num(1), "x", num(i)), api.ErrType)
				wantEval(t, of(put(numbers)), none(), numbers)
				wantNames(t, e, "s", "x")
				wantMay(t, false, of(n(i), n(i)))
			}
		})
	}
}
