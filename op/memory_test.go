package op_test

import (
	"slices"
	"testing"

	"viaticum/api"
	"viaticum/op"
	"viaticum/term"
)

// roomy is t with lists that have room, and something that is not theirs within it.
func roomy(t api.Term) api.Term {
	l := make([]api.Term, 0, len(t.L)+20)
	for _, x := range t.L {
		l = append(l, roomy(x))
	}
	behind := l[:cap(l)]
	for i := len(l); i < len(behind); i++ {
		behind[i] = variable("behind")
	}
	t.L = l
	return t
}

// isRoomy tells whether t is as roomy makes it of want.
func isRoomy(t, want api.Term) bool {
	if t.Kind != want.Kind || t.N != want.N || t.S != want.S || len(t.L) != len(want.L) || cap(t.L) != len(t.L)+20 {
		return false
	}
	for i, x := range t.L[:cap(t.L)] {
		if i < len(t.L) && !isRoomy(x, want.L[i]) || i >= len(t.L) && !alike(x, variable("behind")) {
			return false
		}
	}
	return true
}

// P11.4: what is told is Fixed; beside an error it is nothing.
func TestToldIsFixed(t *testing.T) {
	want := func(got api.Term, e api.Errno) {
		t.Helper()
		if e == api.OK && !term.Fixed(got) || e != api.OK && !alike(got, api.Term{}) {
			t.Errorf("got %.80v, %d", got, e)
		}
	}
	all := append(fixed(), unfixed()...)
	for _, a := range all {
		for code := -1; code <= api.ULength+1; code++ {
			want(op.Unary(code, a))
		}
		for _, b := range all {
			for code := -1; code <= api.BXorBits+1; code++ {
				want(op.Binary(code, a, b))
			}
		}
	}
}

// P11.3, R2: no argument is changed, and what lies behind its lists is neither read nor written.
func TestGivenStays(t *testing.T) {
	for _, x := range fixed() {
		for code := -1; code <= api.ULength+1; code++ {
			a := roomy(x)
			got, e := op.Unary(code, a)
			if want, f := op.Unary(code, x); !alike(got, want) || e != f || !isRoomy(a, x) {
				t.Errorf("Unary(%d, %.80v): got %.80v, %d", code, x, got, e)
			}
		}
		for _, y := range fixed() {
			for code := -1; code <= api.BXorBits+1; code++ {
				a, b := roomy(x), roomy(y)
				got, e := op.Binary(code, a, b)
				if want, f := op.Binary(code, x, y); !alike(got, want) || e != f || !isRoomy(a, x) || !isRoomy(b, y) {
					t.Errorf("Binary(%d, %.80v, %.80v): got %.80v, %d", code, x, y, got, e)
				}
			}
		}
	}
}

// spoil writes over all of a term's list, and over what lies behind it.
func spoil(t api.Term) {
	for i, x := range t.L {
		spoil(x)
		t.L[i] = variable("spoilt")
	}
	behind := t.L[len(t.L):cap(t.L)]
	for i := range behind {
		behind[i] = variable("spoilt")
	}
}

// R2: a set that is told is new memory: whoever changes it changes nothing else, nor does it change with what was handed in.
func TestToldIsNew(t *testing.T) {
	sets := []api.Term{set(), set(num(1)), from(0, 3), from(2, 3), from(0, 16), from(8, 8)}
	for _, code := range []int{api.BMeet, api.BJoin} {
		for _, x := range sets {
			for _, y := range sets {
				a, b := roomy(x), roomy(y)
				got, e := op.Binary(code, a, b)
				if e != api.OK {
					continue
				}
				want := got
				want.L = slices.Clone(got.L)
				other, _ := op.Binary(code, a, b)
				spoil(got)
				if !isRoomy(a, x) || !isRoomy(b, y) || !alike(other, want) {
					t.Fatalf("Binary(%d, %v, %v): what it told is not new", code, x, y)
				}
				spoil(a)
				spoil(b)
				if !alike(other, want) {
					t.Fatalf("Binary(%d, %v, %v): it kept what was handed in", code, x, y)
				}
			}
		}
	}
}

// R2: one term as both sides.
func TestOneOnBothSides(t *testing.T) {
	a := roomy(from(0, 9))
	wantBinary(t, api.BMeet, a, a, from(0, 9))
	wantBinary(t, api.BJoin, a, a, from(0, 9))
	wantIs(t, api.BContains, a, a, true)
	wantIs(t, api.BSame, a, a, true)
	wantIs(t, api.BOther, a, a, false)
	if !isRoomy(a, from(0, 9)) {
		t.Error("changed")
	}
}

// R6: an answer hangs on nothing that went ahead, nor on what goes on beside it.
func TestNothingIsKept(t *testing.T) {
	for range 8 {
		t.Run("", func(t *testing.T) {
			t.Parallel()
			for range 200 {
				wantBinary(t, api.BAdd, num(2), num(3), num(5))
				wantNoBinary(t, api.BDiv, num(2), num(0), api.ErrZero)
				wantBinary(t, api.BJoin, from(0, 3), from(2, 3), from(0, 5))
				wantNoBinary(t, api.BAdd, num(most), num(1), api.ErrOver)
				wantBinary(t, api.BAdd, text("a"), text("b"), text("ab"))
				wantNoBinary(t, api.BMatches, text("a"), text("*"), api.ErrForm)
				wantUnary(t, api.UNot, truth(true), truth(false))
				wantNoUnary(t, api.UNot, num(1), api.ErrType)
			}
		})
	}
}

// R3, R4: whatever comes, each call ends, and tells nothing beside an error.
func FuzzOp(f *testing.F) {
	for code := range api.BXorBits + 1 {
		f.Add(code, api.TInt, int64(least), "", api.TInt, int64(-1), "")
		f.Add(code, api.TText, int64(0), "abbc", api.TText, int64(0), "b+")
		f.Add(code, api.TSet, int64(0), "abc", api.TSet, int64(0), "bcd")
		f.Add(code, api.TSet, int64(0), "abcdefgh", api.TSet, int64(0), "ijklmnopq")
		f.Add(code, api.TSet, int64(0), "abc", api.TInt, int64('b'), "")
	}
	f.Fuzz(func(t *testing.T, code, kind int, n int64, s string, otherKind int, otherN int64, otherS string) {
		a, b := made(kind, n, s), made(otherKind, otherN, otherS)
		got, e := op.Binary(code, a, b)
		isCode := code >= api.BLess && code <= api.BXorBits
		wantTold(t, got, e, isCode && term.Fixed(a) && term.Fixed(b))
		if e == api.OK && !op.Kinds(code, a.Kind, b.Kind) {
			t.Errorf("Binary(%d, %v, %v): Kinds says no", code, a, b)
		}
		got, e = op.Unary(code, a)
		wantTold(t, got, e, code >= api.UNot && code <= api.ULength && term.Fixed(a))
	})
}

// made is a term of this kind; of a set the bytes are its numbers.
func made(kind int, n int64, s string) api.Term {
	if kind != api.TSet {
		return api.Term{Kind: kind, N: n, S: s}
	}
	t := api.Term{Kind: kind, N: n}
	for i := range len(s) {
		t.L = append(t.L, num(int64(s[i])))
	}
	return t
}

// wantTold fails if what is told is not Fixed, if there is something beside an error, or if ErrArg is told of what may be, or not of what may not.
func wantTold(t *testing.T, got api.Term, e api.Errno, may bool) {
	t.Helper()
	if e == api.OK && !term.Fixed(got) || e != api.OK && !alike(got, api.Term{}) || (e == api.ErrArg) == may {
		t.Errorf("got %v, %d", got, e)
	}
}
