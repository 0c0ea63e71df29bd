package op_test

import (
	"testing"

	"viaticum/api"
	"viaticum/op"
)

// onBoth are the kinds of which both sides may be, by code.
func onBoth() map[int][]int {
	anyKind := []int{api.TInt, api.TText, api.TDate, api.TBytes, api.TBool, api.TSet}
	return map[int][]int{
		api.BLess: {api.TInt, api.TDate}, api.BMore: {api.TInt, api.TDate}, api.BLeast: {api.TInt, api.TDate}, api.BMost: {api.TInt, api.TDate},
		api.BSame: anyKind, api.BOther: anyKind,
		api.BAdd: {api.TInt, api.TText}, api.BSub: {api.TInt}, api.BMul: {api.TInt}, api.BDiv: {api.TInt},
		api.BContains: {api.TText, api.TSet},
		api.BStarts:   {api.TText, api.TBytes}, api.BEnds: {api.TText, api.TBytes},
		api.BMatches: {api.TText},
		api.BMeet:    {api.TSet}, api.BJoin: {api.TSet},
		api.BAndBits: {api.TInt}, api.BOrBits: {api.TInt}, api.BXorBits: {api.TInt},
	}
}

// may is what P11.2 says, from a list.
func may(code, a, b int) bool {
	if code == api.BContains && a == api.TSet && b >= api.TInt && b <= api.TBool {
		return true
	}
	for _, kind := range onBoth()[code] {
		if a == kind && b == kind {
			return true
		}
	}
	return false
}

// allKinds are those that there are, TVar among them, and some that there are not.
func allKinds() []int {
	l := []int{least, -256, -7, -2, -1, 256 + api.TInt, 1<<32 + api.TInt, 1<<32 + api.TSet, most}
	for kind := range 20 {
		l = append(l, kind)
	}
	return l
}

// P11.2: every pair of kinds, of every code, those that there are not among them.
func TestKinds(t *testing.T) {
	codes := noCodes(api.BXorBits)
	for code := api.BLess; code <= api.BXorBits; code++ {
		codes = append(codes, code)
	}
	for _, code := range codes {
		for _, a := range allKinds() {
			for _, b := range allKinds() {
				if got := op.Kinds(code, a, b); got != may(code, a, b) {
					t.Errorf("Kinds(%d, %d, %d): got %v", code, a, b, got)
				}
			}
		}
	}
}

// P11.2: some by hand, of each row.
func TestKindsByHand(t *testing.T) {
	for _, x := range []struct {
		code, a, b int
		want       bool
	}{
		{api.BLess, api.TInt, api.TInt, true}, {api.BMost, api.TDate, api.TDate, true}, {api.BLess, api.TInt, api.TDate, false}, {api.BMore, api.TText, api.TText, false}, {api.BLeast, api.TBool, api.TBool, false},
		{api.BSame, api.TBool, api.TBool, true}, {api.BOther, api.TSet, api.TSet, true}, {api.BSame, api.TVar, api.TVar, false}, {api.BSame, 0, 0, false}, {api.BOther, 8, 8, false}, {api.BSame, api.TInt, api.TDate, false},
		{api.BAdd, api.TText, api.TText, true}, {api.BAdd, api.TBytes, api.TBytes, false}, {api.BAdd, api.TInt, api.TText, false}, {api.BSub, api.TInt, api.TInt, true}, {api.BSub, api.TText, api.TText, false}, {api.BSub, api.TDate, api.TDate, false}, {api.BMul, api.TInt, api.TInt, true}, {api.BDiv, api.TInt, api.TInt, true},
		{api.BContains, api.TSet, api.TSet, true}, {api.BContains, api.TSet, api.TBytes, true}, {api.BContains, api.TSet, api.TVar, false}, {api.BContains, api.TSet, 0, false}, {api.BContains, api.TSet, 8, false}, {api.BContains, api.TText, api.TText, true}, {api.BContains, api.TBytes, api.TBytes, false}, {api.BContains, api.TText, api.TSet, false}, {api.BContains, api.TText, api.TBytes, false},
		{api.BStarts, api.TBytes, api.TBytes, true}, {api.BEnds, api.TText, api.TText, true}, {api.BStarts, api.TText, api.TBytes, false}, {api.BEnds, api.TSet, api.TSet, false},
		{api.BMatches, api.TText, api.TText, true}, {api.BMatches, api.TBytes, api.TBytes, false},
		{api.BMeet, api.TSet, api.TSet, true}, {api.BJoin, api.TSet, api.TInt, false}, {api.BXorBits, api.TInt, api.TInt, true}, {api.BAndBits, api.TBool, api.TBool, false},
		{0, api.TInt, api.TInt, false}, {20, api.TInt, api.TInt, false},
	} {
		if got := op.Kinds(x.code, x.a, x.b); got != x.want {
			t.Errorf("Kinds(%d, %d, %d): got %v", x.code, x.a, x.b, got)
		}
	}
}

// P11.3: ErrType just where Kinds says no; and BJoin's own.
func TestBinaryOfOtherKinds(t *testing.T) {
	for code := api.BLess; code <= api.BXorBits; code++ {
		for _, a := range fixed() {
			for _, b := range fixed() {
				if !may(code, a.Kind, b.Kind) {
					wantNoBinary(t, code, a, b, api.ErrType)
					continue
				}
				if _, e := op.Binary(code, a, b); e == api.ErrArg || e == api.ErrType && code != api.BJoin {
					t.Errorf("Binary(%d, %.80v, %.80v): got %d", code, a, b, e)
				}
			}
		}
	}
}

// P11.3: the kinds are told ahead of what the terms are: of no division by 0, no pattern, nothing too long.
func TestKindsAheadOfTerms(t *testing.T) {
	wantNoBinary(t, api.BDiv, text("a"), num(0), api.ErrType)
	wantNoBinary(t, api.BDiv, date(1), num(0), api.ErrType)
	wantNoBinary(t, api.BDiv, num(0), date(0), api.ErrType)
	wantNoBinary(t, api.BAdd, raw(long(256)), raw("a"), api.ErrType)
	wantNoBinary(t, api.BAdd, text(long(256)), raw("a"), api.ErrType)
	wantNoBinary(t, api.BAdd, date(253402300799), num(most), api.ErrType)
	wantNoBinary(t, api.BMatches, raw("a"), text("*"), api.ErrType)
	wantNoBinary(t, api.BMatches, text("a"), raw("*"), api.ErrType)
	wantNoBinary(t, api.BJoin, from(0, 16), num(16), api.ErrType)
	wantNoBinary(t, api.BMeet, num(1), from(0, 16), api.ErrType)
}

// P11.3: codes that there are not, of terms that would do and of others.
func TestNoBinary(t *testing.T) {
	for _, code := range noCodes(api.BXorBits) {
		for _, a := range append(fixed(), unfixed()...) {
			for _, b := range []api.Term{num(1), num(0), text("a"), date(1), raw("a"), truth(true), set(num(1)), variable("x"), {}} {
				wantNoBinary(t, code, a, b, api.ErrArg)
				wantNoBinary(t, code, b, a, api.ErrArg)
			}
		}
	}
}

// P11.3: a term that is not Fixed, on either side, on both, beside kinds that may be and that may not.
func TestBinaryOfUnfixed(t *testing.T) {
	for code := api.BLess; code <= api.BXorBits; code++ {
		for _, wrong := range unfixed() {
			for _, right := range fixed() {
				wantNoBinary(t, code, wrong, right, api.ErrArg)
				wantNoBinary(t, code, right, wrong, api.ErrArg)
			}
			for _, other := range unfixed() {
				wantNoBinary(t, code, wrong, other, api.ErrArg)
			}
		}
	}
}
