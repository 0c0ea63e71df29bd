package term_test

import (
	"strings"
	"testing"

	"viaticum/api"
	"viaticum/term"
)

// wantMay wants of each term what May, and what Fixed says of it.
func wantMay(t *testing.T, may, isFixed bool, l ...api.Term) {
	t.Helper()
	for _, x := range l {
		if term.May(x) != may || term.Fixed(x) != isFixed {
			t.Errorf("%.200v: got %v, %v, want %v, %v", x, term.May(x), term.Fixed(x), may, isFixed)
		}
	}
}

// P7.2: terms of each kind that may be.
func TestMay(t *testing.T) {
	wantMay(t, true, true, fixed()...)
	wantMay(t, true, false, variable("x"), variable("hex"), variable("true"), variable(strings.Repeat("a", 32)), variable("Z9_:x"))
}

// P7.2: a variable has a name.
func TestVariableNames(t *testing.T) {
	wantMay(t, false, false, variable(""), variable("9"), variable("_"), variable("hex:"), variable("hex:ab"), variable("a-b"), variable("$x"), variable(strings.Repeat("a", 33)))
}

// P7.2: all numbers may be.
func TestMayNumbers(t *testing.T) {
	for bit := range 64 {
		n := int64(1) << bit
		wantMay(t, true, true, num(n), num(n-1), num(-n), num(^n))
	}
}

// P7.2: a text, bytes of MaxText bytes at most, whatever these are.
func TestMayTexts(t *testing.T) {
	for n := range 2*api.MaxText + 2 {
		want := n <= api.MaxText
		wantMay(t, want, want, text(strings.Repeat("a", n)), raw(strings.Repeat("\x00", n)), text(strings.Repeat("\xff", n)))
	}
	wantMay(t, true, true, text(strings.Repeat("é", api.MaxText/2)))
	wantMay(t, false, false, text(strings.Repeat("é", api.MaxText/2)+"a"), raw(strings.Repeat("a", 1<<20)))
}

// P7.2: dates of the years 1970 to 9999; a truth is 0 or 1.
func TestMayBounds(t *testing.T) {
	wantMay(t, true, true, date(0), date(1), date(1<<32), date(253402300798), date(253402300799))
	wantMay(t, false, false, date(-1), date(253402300800), date(253402300801), date(-253402300799), date(1<<63-1), date(-1<<63))
	wantMay(t, true, true, truth(0), truth(1))
	wantMay(t, false, false, truth(-1), truth(2), truth(3), truth(256), truth(1<<32), truth(1<<32+1), truth(1<<63-1), truth(-1<<63))
}

// P7.2: a set of MaxSet terms at most.
func TestMaySetLengths(t *testing.T) {
	for n := range 40 {
		want := n <= api.MaxSet
		wantMay(t, want, want, set(nums(n)...))
	}
	wantMay(t, false, false, set(nums(1000)...))
}

// P7.2: its terms rise, wherever they don't.
func TestMaySetRises(t *testing.T) {
	wantMay(t, false, false, set(num(2), num(1)), set(num(1), num(1)), set(text("b"), text("a")), set(text(""), text("")), set(truth(1), truth(0)), set(date(1), date(0)), set(raw("a"), raw("")))
	for i := range 15 {
		swapped, twice := nums(16), nums(16)
		swapped[i], swapped[i+1] = swapped[i+1], swapped[i]
		twice[i] = twice[i+1]
		wantMay(t, false, false, set(swapped...), set(twice...))
	}
}

// P7.2: its terms are of one kind, which is neither that of a variable nor that of a set.
func TestMaySetKinds(t *testing.T) {
	one := []api.Term{{}, variable("x"), num(1), text("a"), date(1), raw("a"), truth(1), set(), {Kind: 8}, {Kind: -1}}
	for i, a := range one {
		want := i >= 2 && i <= 6
		wantMay(t, want, want, set(a))
		for _, b := range one {
			wantMay(t, false, false, set(a, b))
		}
	}
	wantMay(t, false, false, set(variable("x"), variable("y")), set(set(), set(num(1))), set(num(1), num(2), text("")), set(num(1), num(2), variable("x")), set(num(1), num(2), set()))
}

// P7.2: each term of a set may be.
func TestMaySetOfWhatMayNot(t *testing.T) {
	long := strings.Repeat("a", api.MaxText+1)
	wantMay(t, false, false,
		set(text(long)), set(text("a"), text(long)), set(raw(long)), set(date(-1)), set(date(0), date(253402300800)), set(truth(2)), set(truth(0), truth(1), truth(2)),
		set(api.Term{Kind: api.TInt, S: "a"}), set(num(0), api.Term{Kind: api.TInt, N: 1, S: "a"}), set(api.Term{Kind: api.TInt, L: nums(1)}), set(api.Term{Kind: api.TText, N: 1}))
}

// P7.2: what a kind has not is zero.
func TestMayAllElseIsZero(t *testing.T) {
	for _, x := range append(fixed(), variable("x")) {
		withN, withS, withL := x, x, x
		withN.N, withS.S, withL.L = 1, "a", nums(1)
		negative, blank := x, x
		negative.N, blank.S = -1, "\x00"
		switch x.Kind {
		case api.TVar, api.TText, api.TBytes:
			wantMay(t, false, false, withN, negative, withL)
		case api.TInt, api.TDate, api.TBool:
			wantMay(t, false, false, withS, blank, withL)
		case api.TSet:
			wantMay(t, false, false, withN, negative, withS, blank)
		}
	}
}

// P7.2: no other kind than the seven.
func TestMayKinds(t *testing.T) {
	for kind := -300; kind < 300; kind++ {
		want := kind >= api.TInt && kind <= api.TSet
		wantMay(t, want, want, api.Term{Kind: kind})
		if kind < api.TVar || kind > api.TSet {
			wantMay(t, false, false, api.Term{Kind: kind, N: 1}, api.Term{Kind: kind, S: "x"}, api.Term{Kind: kind, L: nums(1)})
		}
	}
	wantMay(t, false, false, api.Term{Kind: 1<<63 - 1}, api.Term{Kind: -1 << 63}, api.Term{Kind: 1<<32 + api.TInt}, api.Term{Kind: 256 + api.TInt})
}

// R2, R3: an empty list is none; a list that holds itself, and a deep one, come to an end.
func TestMayOfLists(t *testing.T) {
	room := nums(4)
	wantMay(t, true, true, api.Term{Kind: api.TInt, L: room[:0]}, api.Term{Kind: api.TSet, L: []api.Term{}}, api.Term{Kind: api.TSet, L: room[:2]}, set(api.Term{Kind: api.TText, L: room[:0]}))
	wantMay(t, true, false, api.Term{Kind: api.TVar, S: "x", L: []api.Term{}})
	for kind := range 9 {
		own := itself()
		own.Kind = kind
		own.L[0].Kind = kind
		wantMay(t, false, false, own, set(own))
	}
	wantMay(t, false, false, within(1<<16, num(1)))
}
