package field_test

import (
	"bytes"
	"math/big"
	"slices"
	"strings"
	"testing"

	"viaticum/field"
)

// p is 2^255 - 19.
func p() *big.Int {
	return near(255, -19)
}

// near is 2^power + more.
func near(power uint, more int64) *big.Int {
	n := new(big.Int).Lsh(big.NewInt(1), power)
	return n.Add(n, big.NewInt(more))
}

// low is n's bytes, the lowest first, at least size of them.
func low(n *big.Int, size int) []byte {
	b := n.Bytes()
	slices.Reverse(b)
	for len(b) < size {
		b = append(b, 0)
	}
	return b
}

// elem is n modulo p, made of bytes.
func elem(n *big.Int) field.Elem {
	return field.From(low(new(big.Int).Mod(n, p()), 32))
}

// number is what a's bytes say.
func number(a field.Elem) *big.Int {
	b := a.Bytes()
	slices.Reverse(b)
	return new(big.Int).SetBytes(b)
}

// want complains unless a is n modulo p, in all that can be asked of it alone.
func want(t *testing.T, what string, a field.Elem, n *big.Int) {
	t.Helper()
	n = new(big.Int).Mod(n, p())
	if got := a.Bytes(); !bytes.Equal(got, low(n, 32)) {
		t.Errorf("%s: got %x, want %x", what, got, low(n, 32))
	}
	if a.IsZero() != (n.Sign() == 0) {
		t.Errorf("%s: IsZero tells %v", what, a.IsZero())
	}
	if a.IsOdd() != (n.Bit(0) == 1) {
		t.Errorf("%s: IsOdd tells %v", what, a.IsOdd())
	}
	if !a.Same(elem(n)) || !elem(n).Same(a) {
		t.Errorf("%s: Same tells false", what)
	}
}

// edges are numbers below p at its ends, and round the ends of its words.
func edges() []*big.Int {
	var out []*big.Int
	for n := int64(0); n <= 40; n++ {
		out = append(out, big.NewInt(n), new(big.Int).Sub(p(), big.NewInt(n+1)))
	}
	for _, power := range []uint{8, 31, 32, 63, 64, 65, 127, 128, 129, 191, 192, 193, 248, 251, 252, 253, 254} {
		for more := int64(-1); more <= 1; more++ {
			out = append(out, near(power, more), new(big.Int).Sub(p(), near(power, more)))
		}
	}
	return out
}

// strewn are n numbers below p without a pattern, the same each time.
func strewn(n int) []*big.Int {
	x := big.NewInt(7)
	factor := new(big.Int).Sub(near(253, 0), near(131, 55))
	var out []*big.Int
	for range n {
		x = new(big.Int).Mul(x, factor)
		x.Add(x, near(200, 12345)).Mod(x, p())
		out = append(out, x)
	}
	return out
}

// some are edges and strewn numbers, few enough to take three at a time.
func some() []*big.Int {
	out := []*big.Int{big.NewInt(0), big.NewInt(1), big.NewInt(2), big.NewInt(19), near(255, -20), near(255, -21), near(255, -38), near(254, 0), near(192, -1), near(128, 0), near(64, -1)}
	return append(out, strewn(6)...)
}

// P2.1: the zero Elem is 0.
func TestZeroElem(t *testing.T) {
	want(t, "zero Elem", field.Elem{}, big.NewInt(0))
	var none field.Elem
	if !none.Same(field.Small(0)) || none.Same(field.Small(1)) {
		t.Error("the zero Elem is not Small(0) alone")
	}
}

// P2.1: From of every number of 32 bytes that lies at an end: 0, 1, p and round it, twice p, 2^255, all bits.
func TestFromEdges(t *testing.T) {
	for more := int64(-60); more <= 60; more++ {
		want(t, "round p", field.From(low(new(big.Int).Add(p(), big.NewInt(more)), 32)), big.NewInt(more))
		n := near(255, more)
		want(t, "round 2^255", field.From(low(n, 32)), n)
		n = new(big.Int).Add(near(256, -38), big.NewInt(more))
		if n.BitLen() <= 256 {
			want(t, "round 2p", field.From(low(n, 32)), n)
		}
	}
	for n := int64(1); n <= 60; n++ {
		greatest := near(256, -n)
		want(t, "round the greatest", field.From(low(greatest, 32)), greatest)
	}
	for _, n := range edges() {
		want(t, "edge", field.From(low(n, 32)), n)
		n = new(big.Int).SetBit(n, 255, 1)
		want(t, "edge with the highest bit", field.From(low(n, 32)), n)
	}
}

// P2.1: each bit counts for itself, the highest too.
func TestFromBits(t *testing.T) {
	for i := range 256 {
		b := make([]byte, 32)
		b[i/8] = 1 << (i % 8)
		want(t, "one bit", field.From(b), near(uint(i), 0))
		for j := range b {
			b[j] = ^b[j]
		}
		want(t, "all bits but one", field.From(b), new(big.Int).Sub(near(256, -1), near(uint(i), 0)))
	}
}

// P2.1: of fewer than 32 bytes those that lack are 0; of more than 32 the rest counts for nothing.
func TestFromLengths(t *testing.T) {
	want(t, "nil", field.From(nil), big.NewInt(0))
	want(t, "empty", field.From([]byte{}), big.NewInt(0))
	b := bytes.Repeat([]byte{0xff}, 100)
	for n := range b {
		bits := uint(8 * min(n, 32))
		want(t, "all bits set", field.From(b[:n]), near(bits, -1))
	}
	long := append(low(near(255, -20), 32), bytes.Repeat([]byte{0xa5}, 40)...)
	for n := 32; n <= len(long); n++ {
		want(t, "p - 1 and more bytes", field.From(long[:n]), big.NewInt(-1))
	}
}

// P2.1, R2: From neither changes nor keeps its bytes, and reads nothing behind their length.
func TestFromStays(t *testing.T) {
	for n := range 40 {
		whole := bytes.Repeat([]byte{0xfe}, 80)
		a := field.From(whole[:n])
		first := a.Bytes()
		if !bytes.Equal(whole, bytes.Repeat([]byte{0xfe}, 80)) {
			t.Errorf("%d bytes: changed", n)
		}
		for i := n; i < len(whole); i++ {
			whole[i] = 0x01
		}
		if !field.From(whole[:n]).Same(a) {
			t.Errorf("%d bytes: what lies behind counts", n)
		}
		clear(whole)
		if !bytes.Equal(a.Bytes(), first) {
			t.Errorf("%d bytes: kept", n)
		}
	}
}

// P2.1: Small at both ends of what it takes.
func TestSmall(t *testing.T) {
	for _, n := range []uint32{0, 1, 2, 18, 19, 20, 255, 256, 65535, 65536, 1<<31 - 1, 1 << 31, 1<<32 - 1} {
		want(t, "small", field.Small(n), new(big.Int).SetUint64(uint64(n)))
	}
}

// P2.1, R2: Bytes tells 32 bytes, the caller's own each time.
func TestBytesAreNew(t *testing.T) {
	for _, n := range edges() {
		a := elem(n)
		first, second := a.Bytes(), a.Bytes()
		if len(first) != 32 {
			t.Fatalf("%d bytes", len(first))
		}
		for i := range first {
			first[i] ^= 0xff
		}
		if !bytes.Equal(second, low(n, 32)) || !bytes.Equal(a.Bytes(), low(n, 32)) {
			t.Errorf("%v: bytes that were told hang together", n)
		}
	}
}

// P2.1: what the chapter shows.
func TestExample(t *testing.T) {
	b := field.Small(2).Sub(field.Small(3)).Bytes()
	if got := string(b); got != "\xec"+strings.Repeat("\xff", 30)+"\x7f" {
		t.Errorf("got %x", b)
	}
}

// P2.1: Add, Sub, Mul, Same of two, held against another program's numbers.
func TestOfTwo(t *testing.T) {
	numbers := append(edges(), strewn(60)...)
	for _, m := range numbers {
		for _, n := range numbers {
			a, b := elem(m), elem(n)
			want(t, "Add", a.Add(b), new(big.Int).Add(m, n))
			want(t, "Sub", a.Sub(b), new(big.Int).Sub(m, n))
			want(t, "Mul", a.Mul(b), new(big.Int).Mul(m, n))
			if a.Same(b) != (m.Cmp(n) == 0) {
				t.Errorf("Same of %v and %v tells %v", m, n, a.Same(b))
			}
			if t.Failed() {
				t.Fatalf("of %v and %v", m, n)
			}
		}
	}
}

// P2.1: one number made in two ways is the same.
func TestSameHoweverMade(t *testing.T) {
	for _, n := range append(edges(), strewn(20)...) {
		a := elem(n)
		for what, b := range map[string]field.Elem{
			"p more":    field.From(low(new(big.Int).Add(n, p()), 32)),
			"there":     a.Add(field.Small(5)).Sub(field.Small(5)),
			"turned":    a.Neg().Neg(),
			"doubled":   a.Add(a).Mul(field.Small(2).Inv()),
			"times one": a.Mul(field.From(low(near(255, -18), 32))),
		} {
			if !a.Same(b) || !bytes.Equal(a.Bytes(), b.Bytes()) {
				t.Errorf("%v, %s: got %x", n, what, b.Bytes())
			}
		}
	}
}

// P2.1: Neg, Inv of one; 0 of 0.
func TestOfOne(t *testing.T) {
	for _, n := range append(edges(), strewn(60)...) {
		a := elem(n)
		want(t, "Neg", a.Neg(), new(big.Int).Neg(n))
		inverse := new(big.Int)
		if n.Sign() != 0 {
			inverse.ModInverse(n, p())
		}
		want(t, "Inv", a.Inv(), inverse)
	}
	want(t, "Inv of p", field.From(low(p(), 32)).Inv(), big.NewInt(0))
}

// P2.1: products that are just above a multiple of p, where most is carried.
func TestSmallProducts(t *testing.T) {
	for _, n := range strewn(4) {
		a := elem(n)
		inverse := a.Inv()
		for product := range uint32(1700) {
			b := inverse.Mul(field.Small(product))
			want(t, "small product", a.Mul(b), big.NewInt(int64(product)))
		}
	}
}

// P2.1, R6: no call changes what it is made on, or what it is given.
func TestValuesStay(t *testing.T) {
	for _, n := range some() {
		a, b := elem(n), elem(near(254, 77))
		a.Add(b)
		a.Sub(b)
		a.Mul(b)
		a.Neg()
		a.Inv()
		a.Same(b)
		field.Root(a, b)
		want(t, "made on", a, n)
		want(t, "given", b, near(254, 77))
	}
}

// P2.3: the laws of a field, for three numbers at a time.
func TestLaws(t *testing.T) {
	zero, one := field.Small(0), field.Small(1)
	for _, l := range some() {
		a := elem(l)
		if !a.Add(zero).Same(a) || !a.Mul(one).Same(a) || !a.Add(a.Neg()).IsZero() || !a.Mul(zero).IsZero() {
			t.Errorf("%v with 0 and 1", l)
		}
		if !a.IsZero() && !a.Mul(a.Inv()).Same(one) {
			t.Errorf("%v by itself", l)
		}
		for _, m := range some() {
			b := elem(m)
			if !a.Add(b).Same(b.Add(a)) || !a.Mul(b).Same(b.Mul(a)) || !a.Sub(b).Add(b).Same(a) {
				t.Errorf("%v and %v", l, m)
			}
			if a.Mul(b).IsZero() != (a.IsZero() || b.IsZero()) {
				t.Errorf("%v times %v", l, m)
			}
			for _, n := range some() {
				c := elem(n)
				if !a.Add(b).Add(c).Same(a.Add(b.Add(c))) || !a.Mul(b).Mul(c).Same(a.Mul(b.Mul(c))) {
					t.Errorf("%v, %v, %v in another order", l, m, n)
				}
				if !a.Mul(b.Add(c)).Same(a.Mul(b).Add(a.Mul(c))) {
					t.Errorf("%v times the sum of %v and %v", l, m, n)
				}
			}
		}
	}
	if zero.Same(one) {
		t.Error("0 is 1")
	}
}
