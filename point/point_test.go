package point_test

import (
	"bytes"
	"math/big"
	"strings"
	"testing"

	"viaticum/point"
)

// wantNone complains unless From tells false, and beside it the zero Point.
func wantNone(t *testing.T, what string, b []byte) {
	t.Helper()
	got, ok := point.From(b)
	if ok || got != (point.Point{}) {
		t.Errorf("%s: From of %x tells %x, %v", what, b, got.Bytes(), ok)
	}
}

// The numbers that the other tests go by are themselves those of the curve.
func TestKnown(t *testing.T) {
	if !knownBase().onCurve() || !knownBase().times(l()).same(knownZero()) {
		t.Error("the base is not of the curve, or not of the order l")
	}
	for i, a := range small() {
		if !a.onCurve() || !a.times(big.NewInt(8)).same(knownZero()) {
			t.Errorf("%d is not small", i)
		}
		for j, b := range small() {
			if (i == j) != a.same(b) {
				t.Errorf("%d and %d are the same, or one is not itself", i, j)
			}
		}
	}
}

// P4.1: the zero Point and Zero are (0, 1), in every place.
func TestZero(t *testing.T) {
	var none point.Point
	want(t, "zero Point", none, knownZero())
	want(t, "Zero", point.Zero(), knownZero())
	if !none.Same(point.Zero()) || !none.Small() || none.Same(point.Base()) {
		t.Error("the zero Point is not Zero alone")
	}
	want(t, "0 + 0", none.Add(none), knownZero())
	want(t, "- 0", none.Neg(), knownZero())
	want(t, "0 + base", none.Add(point.Base()), knownBase())
	want(t, "base + 0", point.Base().Add(none), knownBase())
	for _, n := range []*big.Int{big.NewInt(0), big.NewInt(1), big.NewInt(2), order(1, 1), near(256, -1)} {
		want(t, "many times 0", none.Mul(low(n, 32)), knownZero())
	}
	got, ok := point.From(none.Bytes())
	if !ok || !got.Same(none) {
		t.Error("From does not tell the zero Point of its bytes")
	}
}

// P4.1: what the chapter shows.
func TestExample(t *testing.T) {
	if got := string(point.Base().Bytes()); got != "\x58"+strings.Repeat("\x66", 31) {
		t.Errorf("got %x", got)
	}
}

// P4.1: the base is the one that the chapter names, with that x and no other.
func TestBase(t *testing.T) {
	want(t, "Base", point.Base(), knownBase())
	want(t, "base + base", point.Base().Add(point.Base()), knownBase().add(knownBase()))
	if point.Base().Same(point.Base().Neg()) || point.Base().Small() {
		t.Error("the base is its own Neg, or small")
	}
}

// P4.1: Bytes are 32, the caller's own each time.
func TestBytesAreNew(t *testing.T) {
	for _, a := range some() {
		got := made(t, a)
		first, second := got.Bytes(), got.Bytes()
		if len(first) != 32 {
			t.Fatalf("%d bytes", len(first))
		}
		for i := range first {
			first[i] ^= 0xff
		}
		if !bytes.Equal(second, a.bytes()) || !bytes.Equal(got.Bytes(), a.bytes()) {
			t.Errorf("%x: bytes that were told hang together", a.bytes())
		}
	}
}

// P4.1: From of what Bytes tell, with both values of the bit.
func TestFromBytes(t *testing.T) {
	for _, a := range some() {
		for _, b := range []known{a, a.neg()} {
			got, ok := point.From(b.bytes())
			if !ok || !bytes.Equal(got.Bytes(), b.bytes()) {
				t.Errorf("From of %x: %x, %v", b.bytes(), got.Bytes(), ok)
			}
		}
		other := made(t, a.neg())
		want(t, "with the other bit", other, a.neg())
		want(t, "Neg of the other", other.Neg(), a)
	}
}

// wantAt complains unless From tells of y and both bits what another program says.
func wantAt(t *testing.T, y *big.Int) (found bool) {
	t.Helper()
	for _, bit := range []bool{false, true} {
		b := packed(y, bit)
		a, there := knownAt(y, bit)
		if !there {
			wantNone(t, "no such point", b)
			continue
		}
		found = true
		got, ok := point.From(b)
		if !ok || !bytes.Equal(got.Bytes(), b) {
			t.Errorf("From of %x: %x, %v", b, got.Bytes(), ok)
		}
		want(t, "twice", got.Add(got), a.add(a))
	}
	return found
}

// P4.1: From of each y at an end and of strewn ones: those that a point has, and those that none has.
func TestFromOfAnyY(t *testing.T) {
	var heights []*big.Int
	for n := int64(0); n < 150; n++ {
		heights = append(heights, big.NewInt(n), new(big.Int).Sub(p(), big.NewInt(n+1)))
	}
	for _, n := range strewn(150) {
		heights = append(heights, n.Mod(n, p()))
	}
	found, missed := 0, 0
	for _, y := range heights {
		if wantAt(t, y) {
			found++
		} else {
			missed++
		}
	}
	if found < 100 || missed < 100 {
		t.Errorf("%d are a point's, %d are not", found, missed)
	}
}

// P4.1: a y of p or more is no point's, though what is left of it by p may be one's.
func TestFromOfYNotBelowP(t *testing.T) {
	there := 0
	for more := int64(0); more < 19; more++ {
		y := new(big.Int).Add(p(), big.NewInt(more))
		wantNone(t, "p or more", packed(y, false))
		wantNone(t, "p or more, with the bit", packed(y, true))
		if _, ok := point.From(packed(big.NewInt(more), true)); ok {
			there++
		}
	}
	if there < 3 {
		t.Errorf("less p only %d of them are points", there)
	}
	wantNone(t, "all bits", bytes.Repeat([]byte{0xff}, 32))
}

// P4.1: where x is 0 the bit may not be set.
func TestFromOfXZero(t *testing.T) {
	for _, y := range []*big.Int{big.NewInt(1), new(big.Int).Sub(p(), big.NewInt(1))} {
		want(t, "x is 0", made(t, known{new(big.Int), y}), known{new(big.Int), y})
		wantNone(t, "x is 0, with the bit", packed(y, true))
	}
}

// P4.1: From of any other length than 32 is false, whatever stands there.
func TestFromOfLengths(t *testing.T) {
	wantNone(t, "nil", nil)
	wantNone(t, "empty", []byte{})
	base := append(point.Base().Bytes(), make([]byte, 70)...)
	zero := append(point.Zero().Bytes(), make([]byte, 70)...)
	for n := range base {
		for _, whole := range [][]byte{base, zero, make([]byte, 102)} {
			if n != 32 {
				wantNone(t, "another length", whole[:n])
			} else if _, ok := point.From(whole[:n]); !ok {
				t.Errorf("32 bytes: From of %x tells false", whole[:n])
			}
		}
	}
	wantNone(t, "31 bytes", bytes.Repeat([]byte{0x66}, 31))
	wantNone(t, "33 bytes", bytes.Repeat([]byte{0x66}, 33))
}

// P4.1, R2: From neither changes nor keeps its bytes.
func TestFromStays(t *testing.T) {
	for _, a := range some() {
		b := a.bytes()
		got, ok := point.From(b)
		if !ok || !bytes.Equal(b, a.bytes()) {
			t.Errorf("%x: changed to %x", a.bytes(), b)
		}
		clear(b)
		want(t, "its bytes cleared", got, a)
	}
	for _, b := range [][]byte{packed(p(), true), packed(big.NewInt(2), true), packed(big.NewInt(1), true)} {
		before := bytes.Clone(b)
		if _, ok := point.From(b); ok || !bytes.Equal(b, before) {
			t.Errorf("%x: changed to %x", before, b)
		}
	}
}
