package field_test

import (
	"math/big"
	"testing"

	"viaticum/field"
)

// knownRoot is what Root must tell of u and v, by another program: the number and whether there is one.
func knownRoot(u, v *big.Int) (*big.Int, bool) {
	if u.Sign() == 0 {
		return new(big.Int), true
	}
	if v.Sign() == 0 {
		return new(big.Int), false
	}
	x := new(big.Int).ModInverse(v, p())
	x.Mul(x, u).Mod(x, p())
	if x.ModSqrt(x, p()) == nil {
		return new(big.Int), false
	}
	if x.Bit(0) == 1 {
		x.Sub(p(), x)
	}
	return x, true
}

func wantRoot(t *testing.T, u, v *big.Int) bool {
	t.Helper()
	x, ok := field.Root(elem(u), elem(v))
	known, there := knownRoot(u, v)
	if ok != there {
		t.Errorf("Root(%v, %v) tells %v", u, v, ok)
	}
	want(t, "Root", x, known)
	return there
}

// P2.2: roots of 0, whatever it is divided by.
func TestRootOfZero(t *testing.T) {
	for _, n := range edges() {
		x, ok := field.Root(field.Elem{}, elem(n))
		if !ok || !x.IsZero() {
			t.Errorf("0 by %v: %x, %v", n, x.Bytes(), ok)
		}
	}
}

// P2.2: nothing but 0 has a root by 0.
func TestRootByZero(t *testing.T) {
	for _, n := range append(edges(), strewn(20)...) {
		x, ok := field.Root(elem(n), field.Elem{})
		if ok != (n.Sign() == 0) || !x.IsZero() {
			t.Errorf("%v by 0: %x, %v", n, x.Bytes(), ok)
		}
	}
}

// P2.2: what has a root: it is found, and of two the one that is not odd.
func TestRootOfSquares(t *testing.T) {
	divisors := some()
	for _, n := range append(edges(), strewn(20)...) {
		for _, v := range divisors {
			if v.Sign() == 0 {
				continue
			}
			r, d := elem(n), elem(v)
			x, ok := field.Root(r.Mul(r).Mul(d), d)
			if !ok || x.IsOdd() || !x.Same(r) && !x.Same(r.Neg()) {
				t.Fatalf("root of the square of %v by %v: %x, %v", n, v, x.Bytes(), ok)
			}
		}
	}
}

// P2.2: what has a root and what has none, held against another program.
func TestRootOfAny(t *testing.T) {
	numbers := append(some(), strewn(30)...)
	found, missed := 0, 0
	for _, u := range numbers {
		for _, v := range numbers {
			if wantRoot(t, u, v) {
				found++
			} else {
				missed++
			}
		}
	}
	if found < 500 || missed < 500 {
		t.Errorf("%d have a root, %d have none", found, missed)
	}
}

// P2.2: v times x times x is u where a root is told, and where none is told, twice u has one, for 2 has none.
func TestRootOrRootOfTwice(t *testing.T) {
	two := field.Small(2)
	for _, n := range append(edges(), strewn(40)...) {
		u, v := elem(n), elem(near(250, 9))
		x, ok := field.Root(u, v)
		if ok && !v.Mul(x).Mul(x).Same(u) {
			t.Errorf("%v: told a root that is none", n)
		}
		if _, twice := field.Root(u.Mul(two), v); n.Sign() != 0 && ok == twice {
			t.Errorf("%v: %v, and of twice it %v", n, ok, twice)
		}
	}
}

// P2.2: numbers of which it is known.
func TestRootKnown(t *testing.T) {
	one := big.NewInt(1)
	for _, x := range []struct {
		u    int64
		root int64 // 0: none
	}{{1, -1}, {4, 2}, {9, -3}, {16, 4}, {2, 0}, {8, 0}, {-2, 0}} {
		r, ok := field.Root(elem(big.NewInt(x.u)), elem(one))
		if ok != (x.root != 0) {
			t.Errorf("%d: %v", x.u, ok)
		}
		want(t, "known root", r, big.NewInt(x.root))
	}
	minus := elem(big.NewInt(-1))
	if r, ok := field.Root(minus, elem(one)); !ok || !r.Mul(r).Same(minus) || r.IsOdd() {
		t.Errorf("-1: %x, %v", r.Bytes(), ok)
	}
}
