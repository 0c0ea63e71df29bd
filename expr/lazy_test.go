package expr_test

import (
	"testing"

	"viaticum/api"
)

// fails are operations that leave one term, but for the error.
func fails() map[api.Errno][]api.Op {
	return map[api.Errno][]api.Op{
		api.ErrName: {name("z")},
		api.ErrZero: byZero(),
		api.ErrOver: {n(most), n(1), two(api.BAdd)},
		api.ErrType: {n(1), and(1), is(true)},
		api.ErrForm: {put(text("a")), put(text("*")), two(api.BMatches)},
	}
}

// P12.3: the four rows of each, where the right side is a truth.
func TestLazyTruths(t *testing.T) {
	for _, a := range []bool{false, true} {
		for _, b := range []bool{false, true} {
			wantEval(t, of(is(a), and(1), is(b)), none(), truth(a && b))
			wantEval(t, of(is(a), or(1), is(b)), none(), truth(a || b))
			wantEval(t, of(is(a), one(api.UNot), and(2), is(b), one(api.UNot)), none(), truth(!a && !b))
			wantEval(t, of(is(a), one(api.UNot), or(2), is(b), one(api.UNot)), none(), truth(!a || !b))
			wantEval(t, of(name("x"), and(1), name("y")), bind("x", truth(a), "y", truth(b)), truth(a && b))
			wantEval(t, of(name("x"), or(1), name("y")), bind("x", truth(a), "y", truth(b)), truth(a || b))
		}
	}
}

// P12.3: a false ahead of OAnd and a true ahead of OOr leave out what fails; the other way round it is told.
func TestLeftOut(t *testing.T) {
	for want, l := range fails() {
		right := len(l)
		wantEval(t, after([]api.Op{is(false), and(right)}, l), none(), truth(false))
		wantEval(t, after([]api.Op{is(true), or(right)}, l), none(), truth(true))
		wantNone(t, after([]api.Op{is(true), and(right)}, l), none(), want)
		wantNone(t, after([]api.Op{is(false), or(right)}, l), none(), want)
		// What goes on behind it is done, not left out.
		wantEval(t, after([]api.Op{is(false), and(right)}, l, []api.Op{one(api.UNot)}), none(), truth(true))
		wantEval(t, after([]api.Op{is(true), or(right)}, l, []api.Op{one(api.UNot)}), none(), truth(false))
		wantNone(t, after([]api.Op{is(false), and(1), is(true), or(right)}, l), none(), want)
		wantNone(t, after([]api.Op{is(true), or(1), is(true), and(right)}, l), none(), want)
		// It is left out as a whole, and no more than it.
		wantNone(t, after([]api.Op{is(false), and(right)}, l, l, []api.Op{two(api.BSame)}), none(), want)
	}
}

// P12.3: the right side is what is left, of whatever kind.
func TestRightSide(t *testing.T) {
	for _, x := range fixed() {
		wantEval(t, of(is(true), and(1), put(x)), none(), x)
		wantEval(t, of(is(false), or(1), put(x)), none(), x)
		wantEval(t, of(is(false), and(1), put(x)), none(), truth(false))
		wantEval(t, of(is(true), or(1), put(x)), none(), truth(true))
		wantEval(t, of(is(true), and(1), name("x")), bind("x", x), x)
	}
	wantEval(t, of(is(true), and(3), n(1), n(2), two(api.BAdd)), none(), num(3))
}

// P12.3: OAnd and OOr of what is no truth, ahead of an error in the right side, or of none.
func TestLazyOfNoTruth(t *testing.T) {
	for _, x := range fixed() {
		if x.Kind == api.TBool {
			continue
		}
		for _, lazy := range []func(skip int) api.Op{and, or} {
			wantNone(t, of(put(x), lazy(1), is(true)), none(), api.ErrType)
			wantNone(t, of(put(x), lazy(1), is(false)), none(), api.ErrType)
			wantNone(t, of(put(x), lazy(1), put(x)), none(), api.ErrType)
			wantNone(t, of(name("x"), lazy(1), is(true)), bind("x", x), api.ErrType)
			wantNone(t, of(put(x), lazy(1), name("z")), none(), api.ErrType)
			wantNone(t, after([]api.Op{put(x), lazy(3)}, byZero()), none(), api.ErrType)
			// A truth below it is not asked.
			wantNone(t, of(is(true), put(x), lazy(1), is(true), two(api.BSame)), none(), api.ErrType)
			wantNone(t, of(is(false), put(x), lazy(1), is(true), two(api.BSame)), none(), api.ErrType)
		}
	}
}

// P12.3: the terms below the upmost one stay as they are.
func TestBelow(t *testing.T) {
	for _, x := range []struct {
		left, right bool
		lazy        func(skip int) api.Op
		want        bool
	}{{false, true, and, false}, {true, true, and, true}, {true, false, and, false}, {false, true, or, true}, {false, false, or, false}, {true, false, or, true}} {
		wantEval(t, of(is(true), is(x.left), x.lazy(1), is(x.right), two(api.BSame)), none(), truth(x.want))
		wantEval(t, of(is(false), is(x.left), x.lazy(1), is(x.right), two(api.BSame)), none(), truth(!x.want))
		sum := of(n(2), n(3), is(x.left), x.lazy(1), is(x.right), and(1), n(4), two(api.BAdd), two(api.BAdd))
		if x.want {
			wantEval(t, sum, none(), num(9))
		} else {
			// A false is left there, and no sum is to be had of it.
			wantNone(t, sum, none(), api.ErrType)
		}
	}
}

// P12.3: OAnd and OOr within what is skipped, in both orders; what is left out is left out whole.
func TestLazyWithin(t *testing.T) {
	kinds := []struct {
		lazy    func(skip int) api.Op
		decides bool
	}{{and, false}, {or, true}}
	for _, outer := range kinds {
		for _, inner := range kinds {
			for _, a := range []bool{false, true} {
				for _, b := range []bool{false, true} {
					switch {
					case a == outer.decides:
						wantEval(t, after([]api.Op{is(a), outer.lazy(5), is(b), inner.lazy(3)}, byZero()), none(), truth(a))
						wantEval(t, after([]api.Op{is(a), outer.lazy(5), n(1), inner.lazy(3)}, byZero()), none(), truth(a))
					case b == inner.decides:
						wantEval(t, after([]api.Op{is(a), outer.lazy(5), is(b), inner.lazy(3)}, byZero()), none(), truth(b))
						wantNone(t, after([]api.Op{is(a), outer.lazy(5), n(1), inner.lazy(3)}, byZero()), none(), api.ErrType)
					default:
						wantNone(t, after([]api.Op{is(a), outer.lazy(5), is(b), inner.lazy(3)}, byZero()), none(), api.ErrZero)
						wantEval(t, of(is(a), outer.lazy(3), is(b), inner.lazy(1), n(7)), none(), num(7))
					}
				}
			}
		}
	}
}

// P12.3: one behind the other, and not within: the second one asks what the first one came to.
func TestLazyInRow(t *testing.T) {
	for _, a := range []bool{false, true} {
		for _, b := range []bool{false, true} {
			for _, c := range []bool{false, true} {
				wantEval(t, of(is(a), and(1), is(b), or(1), is(c)), none(), truth(a && b || c))
				wantEval(t, of(is(a), or(1), is(b), and(1), is(c)), none(), truth((a || b) && c))
				wantEval(t, of(is(a), and(3), is(b), or(1), is(c)), none(), truth(a && (b || c)))
				wantEval(t, of(is(a), or(3), is(b), and(1), is(c)), none(), truth(a || b && c))
				wantEval(t, of(is(a), and(1), is(b), and(1), is(c)), none(), truth(a && b && c))
				wantEval(t, of(is(a), or(1), is(b), or(1), is(c)), none(), truth(a || b || c))
			}
		}
	}
	// A right side that is no truth is told where it is asked.
	wantNone(t, of(is(true), and(1), n(1), or(1), is(true)), none(), api.ErrType)
	wantEval(t, of(is(false), and(1), n(1), or(1), is(true)), none(), truth(true))
}
