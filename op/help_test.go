package op_test

import (
	"slices"
	"strings"
	"testing"

	"viaticum/api"
	"viaticum/op"
)

const (
	least = -1 << 63
	most  = 1<<63 - 1
)

func variable(s string) api.Term { return api.Term{Kind: api.TVar, S: s} }
func num(n int64) api.Term       { return api.Term{Kind: api.TInt, N: n} }
func text(s string) api.Term     { return api.Term{Kind: api.TText, S: s} }
func date(n int64) api.Term      { return api.Term{Kind: api.TDate, N: n} }
func raw(s string) api.Term      { return api.Term{Kind: api.TBytes, S: s} }

func truth(is bool) api.Term {
	if is {
		return api.Term{Kind: api.TBool, N: 1}
	}
	return api.Term{Kind: api.TBool}
}

// set is a TSet of these terms as they stand, whether it may be or not.
func set(l ...api.Term) api.Term { return api.Term{Kind: api.TSet, L: l} }

// from is the set of the numbers from first on, so many.
func from(first int64, many int) api.Term {
	var l []api.Term
	for i := range many {
		l = append(l, num(first+int64(i)))
	}
	return set(l...)
}

// long is a text of as many bytes.
func long(many int) string { return strings.Repeat("a", many) }

// alike says whether two terms are the same in all and to the ground, by other means than the project's; nil and empty lists are one.
func alike(a, b api.Term) bool {
	return a.Kind == b.Kind && a.N == b.N && a.S == b.S && slices.EqualFunc(a.L, b.L, alike)
}

// fixed are terms of each kind that may be and are no variables.
func fixed() []api.Term {
	var l []api.Term
	for _, n := range []int64{least, least + 1, -7, -2, -1, 0, 1, 2, 7, 1 << 31, 1 << 32, most - 1, most} {
		l = append(l, num(n))
	}
	for _, s := range []string{"", "a", "b", "ab", "ba", "b+", "*", "(", "\x00", "\xff", "é", long(255), long(256), strings.Repeat("(", 21)} {
		l = append(l, text(s), raw(s))
	}
	for _, n := range []int64{0, 1, 7, 253402300798, 253402300799} {
		l = append(l, date(n))
	}
	return append(l, truth(false), truth(true),
		set(), set(num(1)), set(num(1), num(2)), set(num(2), num(3)), set(num(least), num(-1), num(most)), from(0, 15), from(0, 16), from(1, 16), from(8, 9), from(16, 1),
		set(text("")), set(text("a")), set(text("a"), text("b")), set(date(0)), set(date(1), date(7)), set(raw("")), set(raw("a"), raw("ab")),
		set(truth(false)), set(truth(true)), set(truth(false), truth(true)))
}

// unfixed are terms that may not be, and variables.
func unfixed() []api.Term {
	own := make([]api.Term, 1)
	own[0] = set(own...)
	return []api.Term{
		{}, {N: 1}, {Kind: 8}, {Kind: -1}, {Kind: most}, {Kind: least},
		variable("x"), variable(""), variable("9"), variable("hex:"), {Kind: api.TVar, N: 1, S: "x"},
		{Kind: api.TInt, N: 1, S: "a"}, {Kind: api.TInt, N: 1, L: own}, {Kind: api.TInt, L: []api.Term{{}}},
		text(long(257)), raw(long(257)), {Kind: api.TText, N: 1, S: "a"}, {Kind: api.TBytes, S: "a", L: own}, text(long(100000)),
		date(-1), date(253402300800), date(least), {Kind: api.TDate, N: 1, S: "a"},
		{Kind: api.TBool, N: 2}, {Kind: api.TBool, N: -1}, {Kind: api.TBool, N: 1, S: "a"},
		set(num(2), num(1)), set(num(1), num(1)), set(num(1), text("a")), set(text("a"), num(1)), set(variable("x")), set(api.Term{}),
		set(set()), set(set(num(1))), own[0], from(0, 17), from(0, 1000), set(text(long(257))), set(date(-1)), {Kind: api.TSet, N: 1}, {Kind: api.TSet, S: "a"},
	}
}

// noCodes are those below and above the ones that there are.
func noCodes(last int) []int {
	return []int{0, -1, -2, -last, least, last + 1, last + 2, 2 * last, 100, 256, 257, 1 << 32, 1<<32 + 1, most}
}

func wantUnary(t *testing.T, code int, a, want api.Term) {
	t.Helper()
	if got, e := op.Unary(code, a); !alike(got, want) || e != api.OK {
		t.Errorf("Unary(%d, %.80v): got %.80v, %d, want %.80v", code, a, got, e, want)
	}
}

// wantNoUnary fails unless the call is refused so, and tells nothing beside it.
func wantNoUnary(t *testing.T, code int, a api.Term, want api.Errno) {
	t.Helper()
	if got, e := op.Unary(code, a); !alike(got, api.Term{}) || got.L != nil || e != want {
		t.Errorf("Unary(%d, %.80v): got %.80v, %d, want %d", code, a, got, e, want)
	}
}

func wantBinary(t *testing.T, code int, a, b, want api.Term) {
	t.Helper()
	if got, e := op.Binary(code, a, b); !alike(got, want) || e != api.OK {
		t.Errorf("Binary(%d, %.80v, %.80v): got %.80v, %d, want %.80v", code, a, b, got, e, want)
	}
}

// wantIs fails unless just this truth is told.
func wantIs(t *testing.T, code int, a, b api.Term, want bool) {
	t.Helper()
	wantBinary(t, code, a, b, truth(want))
}

// wantNoBinary fails unless the call is refused so, and tells nothing beside it.
func wantNoBinary(t *testing.T, code int, a, b api.Term, want api.Errno) {
	t.Helper()
	if got, e := op.Binary(code, a, b); !alike(got, api.Term{}) || got.L != nil || e != want {
		t.Errorf("Binary(%d, %.80v, %.80v): got %.80v, %d, want %d", code, a, b, got, e, want)
	}
}
