package term_test

import (
	"slices"
	"strings"
	"testing"

	"viaticum/api"
	"viaticum/term"
)

func variable(s string) api.Term { return api.Term{Kind: api.TVar, S: s} }
func num(n int64) api.Term       { return api.Term{Kind: api.TInt, N: n} }
func text(s string) api.Term     { return api.Term{Kind: api.TText, S: s} }
func date(n int64) api.Term      { return api.Term{Kind: api.TDate, N: n} }
func raw(s string) api.Term      { return api.Term{Kind: api.TBytes, S: s} }
func truth(n int64) api.Term     { return api.Term{Kind: api.TBool, N: n} }

// set is a TSet of these terms as they stand, whether it may be or not.
func set(l ...api.Term) api.Term { return api.Term{Kind: api.TSet, L: l} }

// nums are so many numbers, rising.
func nums(n int) []api.Term {
	var l []api.Term
	for i := range n {
		l = append(l, num(int64(i)))
	}
	return l
}

// within is t in so many lists.
func within(lists int, t api.Term) api.Term {
	for range lists {
		t = set(t)
	}
	return t
}

// itself is a set that holds itself.
func itself() api.Term {
	l := make([]api.Term, 1)
	l[0] = set(l...)
	return l[0]
}

// fixed are terms of each kind, each of which may be and is no variable, rising within a kind, and kinds rising.
func fixed() []api.Term {
	long := strings.Repeat("x", api.MaxText)
	return []api.Term{
		num(-1 << 63), num(-2), num(-1), num(0), num(1), num(1<<63 - 1),
		text(""), text("\x00"), text("9"), text("A"), text("a"), text("a\x00"), text("ab"), text("b"), text(long), text("é"), text("\xff"),
		date(0), date(1), date(253402300798), date(253402300799),
		raw(""), raw("\x00"), raw("\x00\x00"), raw("a"), raw(long), raw("\xff"),
		truth(0), truth(1),
		set(), set(num(-1)), set(num(-1), num(0)), set(num(-1), num(1)), set(num(0)), set(nums(2)...), set(nums(15)...), set(nums(16)...),
		set(text("")), set(text(""), text("a")), set(text("a")), set(date(0)), set(raw("a")), set(truth(0)), set(truth(0), truth(1)), set(truth(1)),
	}
}

// alike says whether two terms are the same in all and to the ground, by other means than the package's; nil and empty lists are one.
func alike(a, b api.Term) bool {
	return a.Kind == b.Kind && a.N == b.N && a.S == b.S && slices.EqualFunc(a.L, b.L, alike)
}

// copied is t with lists of its own.
func copied(t api.Term) api.Term {
	var l []api.Term
	for _, x := range t.L {
		l = append(l, copied(x))
	}
	t.L = l
	return t
}

func wantSet(t *testing.T, what string, l []api.Term, want ...api.Term) {
	t.Helper()
	if got, e := term.Set(l); e != api.OK || !alike(got, set(want...)) {
		t.Errorf("%s: got %v and %d, want %v", what, got, e, want)
	}
}

// wantNoSet wants ErrArg, and nothing beside it.
func wantNoSet(t *testing.T, what string, l ...api.Term) {
	t.Helper()
	if got, e := term.Set(l); e != api.ErrArg || !alike(got, api.Term{}) {
		t.Errorf("%s: got %v and %d", what, got, e)
	}
}
