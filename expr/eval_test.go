package expr_test

import (
	"strings"
	"testing"

	"viaticum/api"
	"viaticum/expr"
	"viaticum/op"
)

func none() api.Bind { return api.Bind{} }

// The chapter's example.
func TestExample(t *testing.T) {
	wantEval(t, of(n(1), n(2), two(api.BAdd)), none(), num(3))
}

// P12.3: a term by itself, and what a variable is bound to.
func TestEvalTerms(t *testing.T) {
	for _, x := range fixed() {
		wantEval(t, of(put(x)), none(), x)
		wantEval(t, of(name("x")), bind("x", x), x)
		wantEval(t, of(name("x")), bind("a", text("other"), "x", x, "y", num(8)), x)
	}
}

// P12.3: a variable that is bound to nothing.
func TestUnbound(t *testing.T) {
	for _, b := range []api.Bind{none(), bind("a", num(1)), bind("w", num(1), "y", num(1)), bind("X", num(1), "x1", num(1)), bound(32)} {
		wantNone(t, of(name("x")), b, api.ErrName)
		wantNone(t, of(n(1), name("x"), two(api.BAdd)), b, api.ErrName)
		wantNone(t, of(name("x"), n(1), two(api.BAdd)), b, api.ErrName)
		wantNone(t, of(name("x"), one(api.UNot)), b, api.ErrName)
		wantNone(t, of(is(true), and(1), name("x")), b, api.ErrName)
		wantNone(t, of(name("x"), and(1), is(true)), b, api.ErrName)
		wantNone(t, of(name("x"), or(1), is(true)), b, api.ErrName)
	}
}

// P12.3: what operations of one side tell, as op has it.
func TestUnary(t *testing.T) {
	wantEval(t, of(is(true), one(api.UNot)), none(), truth(false))
	wantEval(t, of(n(5), one(api.UNeg)), none(), num(-5))
	wantEval(t, of(name("x"), one(api.ULength)), bind("x", text("abc")), num(3))
	wantNone(t, of(n(least), one(api.UNeg)), none(), api.ErrOver)
	wantNone(t, of(n(1), one(api.UNot)), none(), api.ErrType)
	for code := api.UNot; code <= api.ULength; code++ {
		for _, x := range fixed() {
			want, e := op.Unary(code, x)
			for _, ops := range [][]api.Op{{put(x), one(code)}, {name("x"), one(code)}, {is(true), and(2), put(x), one(code)}} {
				if e == api.OK {
					wantEval(t, after(ops), bind("x", x), want)
				} else {
					wantNone(t, after(ops), bind("x", x), e)
				}
			}
		}
	}
}

// P12.3: what operations of two sides tell, as op has it; a is the term below.
func TestBinary(t *testing.T) {
	wantEval(t, of(n(7), n(2), two(api.BSub)), none(), num(5))
	wantEval(t, of(n(2), n(7), two(api.BSub)), none(), num(-5))
	wantEval(t, of(n(-7), n(2), two(api.BDiv)), none(), num(-3))
	wantEval(t, of(put(text("a")), put(text("b")), two(api.BAdd)), none(), text("ab"))
	wantEval(t, of(put(text("abc")), put(text("c")), two(api.BEnds)), none(), truth(true))
	wantEval(t, of(put(text("c")), put(text("abc")), two(api.BEnds)), none(), truth(false))
	wantEval(t, of(put(set(num(1), num(2))), n(2), two(api.BContains)), none(), truth(true))
	wantNone(t, of(n(2), put(set(num(1), num(2))), two(api.BContains)), none(), api.ErrType)
	wantEval(t, of(put(text("abbc")), put(text("b+")), two(api.BMatches)), none(), truth(true))
	wantNone(t, of(put(text("b+")), put(text("*")), two(api.BMatches)), none(), api.ErrForm)
	wantNone(t, of(put(text("a")), put(text(strings.Repeat("(", 21))), two(api.BMatches)), none(), api.ErrSize)
	wantNone(t, of(n(most), n(1), two(api.BAdd)), none(), api.ErrOver)
	wantNone(t, of(n(1), n(0), two(api.BDiv)), none(), api.ErrZero)
	for code := api.BLess; code <= api.BXorBits; code++ {
		for _, a := range fixed() {
			for _, b := range fixed() {
				want, e := op.Binary(code, a, b)
				for _, ops := range [][]api.Op{{put(a), put(b), two(code)}, {name("x"), name("y"), two(code)}, {name("x"), put(b), two(code)}} {
					if e == api.OK {
						wantEval(t, after(ops), bind("x", a, "y", b), want)
					} else {
						wantNone(t, after(ops), bind("x", a, "y", b), e)
					}
				}
			}
		}
	}
}

// P12.3: terms come off the stack in the right order, from deep within.
func TestStackOrder(t *testing.T) {
	wantEval(t, of(n(100), n(20), n(3), two(api.BSub), two(api.BSub)), none(), num(83))
	wantEval(t, of(n(100), n(20), two(api.BSub), n(3), two(api.BSub)), none(), num(77))
	wantEval(t, of(n(100), n(20), one(api.UNeg), two(api.BSub), n(7), n(2), two(api.BSub), two(api.BDiv)), none(), num(24))
	// As many terms at once as there is room for.
	var l []api.Op
	want := int64(0)
	for i := range 16 {
		l = append(l, n(1<<i))
		if i%2 == 0 {
			want += 1 << i
		} else {
			want -= 1 << i
		}
	}
	for range 15 {
		l = append(l, two(api.BSub))
	}
	wantEval(t, after(l), none(), num(want))
}

// P12.3: of two operations that fail the first one that is done is told, whatever they are.
func TestFirstError(t *testing.T) {
	fails := []struct {
		ops  []api.Op
		want api.Errno
	}{
		{[]api.Op{name("z")}, api.ErrName}, {byZero(), api.ErrZero}, {[]api.Op{n(least), one(api.UNeg)}, api.ErrOver}, {[]api.Op{n(1), one(api.UNot)}, api.ErrType},
		{[]api.Op{put(text("a")), put(text("*")), two(api.BMatches)}, api.ErrForm}, {[]api.Op{put(text(strings.Repeat("a", 256))), put(text("a")), two(api.BAdd)}, api.ErrSize},
		{[]api.Op{n(1), and(1), is(true)}, api.ErrType}, {[]api.Op{n(1), or(1), is(true)}, api.ErrType}, {[]api.Op{is(true), and(1), name("z")}, api.ErrName}, {[]api.Op{is(true), and(3), n(1), n(0), two(api.BDiv)}, api.ErrZero},
	}
	for _, a := range fails {
		wantNone(t, after(a.ops), none(), a.want)
		for _, b := range fails {
			wantNone(t, after(a.ops, b.ops, []api.Op{two(api.BAdd)}), none(), a.want)
			wantNone(t, after(a.ops, []api.Op{one(api.UNot)}, b.ops, []api.Op{two(api.BAdd)}), none(), a.want)
			wantNone(t, after(a.ops, []api.Op{and(len(b.ops))}, b.ops), none(), a.want)
			wantNone(t, after(a.ops, []api.Op{or(len(b.ops))}, b.ops), none(), a.want)
			wantNone(t, after([]api.Op{is(true), and(len(a.ops))}, a.ops, b.ops, []api.Op{two(api.BAdd)}), none(), a.want)
			wantNone(t, after([]api.Op{is(false), and(len(a.ops))}, a.ops, b.ops, []api.Op{two(api.BAdd)}), none(), b.want)
		}
		// An operation of two sides is done behind both of them, whatever it would tell of one.
		wantNone(t, after([]api.Op{is(true)}, a.ops, []api.Op{two(api.BAdd)}), none(), a.want)
	}
}

// P12.3: ErrArg is ahead of every other error, whether e may not be, or b, or both; and where there would be none.
func TestErrArgIsFirst(t *testing.T) {
	good := []api.Expr{of(n(1)), of(name("z")), after(byZero()), of(n(1), and(1), n(2)), of(is(true), one(api.UNot)), of(name("a")), of(is(false), and(1), name("z"))}
	bad := []api.Expr{{}, of(n(1), n(2)), of(name("z"), name("z")), after(byZero(), byZero()), of(name("z"), two(api.BAdd)), of(name("9")), after(byZero(), []api.Op{one(4)}), of(is(false), and(2), name("z")), of(is(false), and(1), name("9")), of(is(true), or(1), put(api.Term{})), of(is(true), or(2), n(1), one(0))}
	may := []api.Bind{none(), bind("a", num(1)), bound(32)}
	mayNot := []api.Bind{{Names: []string{"a"}}, {Terms: []api.Term{num(1)}}, bind("a", num(1), "a", num(1)), bind("a", variable("b")), bind("9", num(1)), bind("a", num(1), "b", api.Term{}), bound(33)}
	for _, e := range bad {
		for _, b := range append(may, mayNot...) {
			wantNone(t, e, b, api.ErrArg)
		}
	}
	for _, e := range good {
		for _, b := range mayNot {
			wantNone(t, e, b, api.ErrArg)
		}
		for _, b := range may {
			if _, x := expr.Eval(e, b); x == api.ErrArg {
				t.Errorf("Eval(%s): ErrArg", brief(e))
			}
		}
	}
}

// P12.3: True, of truths and of what is none.
func TestTrue(t *testing.T) {
	for _, x := range fixed() {
		want, wantErr := false, api.ErrType
		if x.Kind == api.TBool {
			want, wantErr = x.N == 1, api.OK
		}
		for _, e := range []api.Expr{of(put(x)), of(name("x")), of(is(true), and(1), put(x))} {
			if got, f := expr.True(e, bind("x", x)); got != want || f != wantErr {
				t.Errorf("True(%s): got %v, %d, want %v, %d", brief(e), got, f, want, wantErr)
			}
		}
	}
	if got, e := expr.True(of(n(3), n(4), two(api.BLess)), none()); !got || e != api.OK {
		t.Error(got, e)
	}
	if got, e := expr.True(of(n(4), n(3), two(api.BLess)), none()); got || e != api.OK {
		t.Error(got, e)
	}
	for _, x := range []struct {
		e    api.Expr
		want api.Errno
	}{{of(name("z")), api.ErrName}, {after(byZero()), api.ErrZero}, {of(n(1), n(2)), api.ErrArg}, {of(n(most), n(2), two(api.BMul)), api.ErrOver}, {of(n(1), or(1), is(true)), api.ErrType}} {
		if got, f := expr.True(x.e, none()); got || f != x.want {
			t.Errorf("True(%s): got %v, %d, want %d", brief(x.e), got, f, x.want)
		}
	}
}

// P12.3: an expression of as many operations as may be.
func TestLongest(t *testing.T) {
	for ops := 1; ops <= 32; ops++ {
		wantEval(t, after(many(ops)), none(), truth(ops%2 == 1))
	}
	wantNone(t, after(many(33)), none(), api.ErrArg)
	for lazy := range 16 {
		wantEval(t, after(deep(lazy)), none(), truth(true))
	}
}
