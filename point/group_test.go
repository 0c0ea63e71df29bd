package point_test

import (
	"bytes"
	"crypto/ed25519"
	"crypto/sha512"
	"math/big"
	"testing"

	"viaticum/point"
)

// all are the points of some, made.
func all(t *testing.T) []point.Point {
	t.Helper()
	var out []point.Point
	for _, a := range some() {
		out = append(out, made(t, a))
	}
	return out
}

// P4.2: Add, Same of any two, held against the chapter's sum in another program's numbers.
func TestAdd(t *testing.T) {
	points := all(t)
	for i, a := range some() {
		for j, b := range some() {
			want(t, "Add", points[i].Add(points[j]), a.add(b))
			if points[i].Same(points[j]) != a.same(b) {
				t.Errorf("Same of %x and %x tells %v", a.bytes(), b.bytes(), points[i].Same(points[j]))
			}
		}
	}
}

// P4.2: points that share x or y alone are not the same.
func TestSameInPartAlone(t *testing.T) {
	base := knownBase()
	two := small()[4] // (0, -1)
	got := made(t, base)
	if got.Same(got.Neg()) || got.Neg().Same(got) {
		t.Error("y alone is the same")
	}
	other := base.neg().add(two) // (x, -y)
	if other.x.Cmp(base.x) != 0 {
		t.Fatal("x is another")
	}
	if got.Same(made(t, other)) || made(t, other).Same(got) || point.Zero().Same(made(t, two)) {
		t.Error("x alone is the same")
	}
}

// P4.2: Neg.
func TestNeg(t *testing.T) {
	for _, a := range some() {
		want(t, "Neg", made(t, a).Neg(), a.neg())
		want(t, "Neg of Neg", made(t, a).Neg().Neg(), a)
	}
}

// P4.2: Mul by small numbers is just that: added so often.
func TestMulByCount(t *testing.T) {
	for _, a := range some() {
		one, soFar := made(t, a), point.Zero()
		for n := range 300 {
			if got := one.Mul(low(big.NewInt(int64(n)), 2)); !got.Same(soFar) {
				t.Fatalf("%d times %x: got %x, want %x", n, a.bytes(), got.Bytes(), soFar.Bytes())
			}
			soFar = soFar.Add(one)
		}
	}
}

// factors are numbers at the ends of 32 bytes, round multiples of l, and strewn.
func factors() []*big.Int {
	out := []*big.Int{big.NewInt(0), big.NewInt(1), big.NewInt(2), big.NewInt(7), big.NewInt(8), p(), near(255, -1), near(255, 0), near(255, 1), near(256, -2), near(256, -1)}
	for _, times := range []int64{1, 2, 8, 15} { // 15 l is the greatest that 32 bytes hold
		out = append(out, order(times, -1), order(times, 0), order(times, 1))
	}
	return append(out, strewn(4)...)
}

// P4.2: Mul by any number of 32 bytes, below l or not, held against another program's numbers.
func TestMul(t *testing.T) {
	if testing.Short() {
		t.Skip("takes seconds")
	}
	for _, a := range some() {
		for _, n := range factors() {
			want(t, "Mul", made(t, a).Mul(low(n, 32)), a.times(n))
		}
	}
}

// P4.2: each of the 256 bits counts for itself.
func TestMulBits(t *testing.T) {
	for _, start := range []point.Point{point.Base(), made(t, small()[3]).Add(point.Base())} {
		double := start
		for i := range 256 {
			b := make([]byte, 32)
			b[i/8] = 1 << (i % 8)
			if !start.Mul(b).Same(double) {
				t.Errorf("bit %d", i)
			}
			double = double.Add(double)
		}
		every := start.Mul(bytes.Repeat([]byte{0xff}, 32))
		if !every.Add(start).Same(double) {
			t.Error("all bits")
		}
	}
}

// P4.2: of fewer than 32 bytes those that lack are 0; of more than 32 the rest counts for nothing.
func TestMulLengths(t *testing.T) {
	point1 := some()[9]
	start := made(t, point1)
	want(t, "nil", start.Mul(nil), knownZero())
	want(t, "empty", start.Mul([]byte{}), knownZero())
	b := low(order(3, 5), 32)
	b = append(b, bytes.Repeat([]byte{0xa5}, 40)...)
	for n := range b {
		whole := make([]byte, 32)
		copy(whole, b[:n])
		if got := start.Mul(b[:n]); !got.Same(start.Mul(whole)) {
			t.Errorf("%d bytes: got %x", n, got.Bytes())
		}
	}
	want(t, "31 bytes", start.Mul(b[:31]), point1.times(new(big.Int).Mod(order(3, 5), near(248, 0))))
	want(t, "32 bytes", start.Mul(b[:32]), point1.times(order(3, 5)))
	want(t, "72 bytes", start.Mul(b), point1.times(order(3, 5)))
	want(t, "nought and more", start.Mul(append(make([]byte, 32), 1, 2, 3)), knownZero())
}

// P4.2, R2: Mul neither changes its bytes nor reads what lies behind their length.
func TestMulStays(t *testing.T) {
	for _, n := range []int{0, 1, 31, 32, 33, 64} {
		whole := bytes.Repeat([]byte{0xfe}, 80)
		first := point.Base().Mul(whole[:n])
		if !bytes.Equal(whole, bytes.Repeat([]byte{0xfe}, 80)) {
			t.Errorf("%d bytes: changed", n)
		}
		clear(whole[n:])
		if !point.Base().Mul(whole[:n]).Same(first) {
			t.Errorf("%d bytes: what lies behind counts", n)
		}
	}
}

// P4.2: Mul by clamped numbers tells the keys that the library's own Ed25519 has.
func TestMulTellsKeys(t *testing.T) {
	for i := range 40 {
		seed := bytes.Repeat([]byte{byte(7 * i)}, 32)
		number := sha512.Sum512(seed)
		number[0] &^= 0x07
		number[31] = number[31]&0x3f | 0x40
		key := ed25519.NewKeyFromSeed(seed).Public().(ed25519.PublicKey)
		if got := point.Base().Mul(number[:]).Bytes(); !bytes.Equal(got, key) {
			t.Errorf("seed %x: got %x, want %x", seed, got, key)
		}
	}
}

// P4.2: Small of just eight points, and of none that one of them was added to.
func TestSmall(t *testing.T) {
	for _, a := range small() {
		got := made(t, a)
		if !got.Small() || !got.Neg().Small() {
			t.Errorf("%x is not small", a.bytes())
		}
		if got.Add(point.Base()).Small() || got.Add(point.Base().Mul(low(order(1, -1), 32))).Small() {
			t.Errorf("%x and the base is small", a.bytes())
		}
		want(t, "the base l times, and a", point.Base().Mul(low(l(), 32)).Add(got), a)
	}
	for _, a := range some() {
		if got := made(t, a).Small(); got != a.times(big.NewInt(8)).same(knownZero()) {
			t.Errorf("Small of %x tells %v", a.bytes(), got)
		}
	}
}

// P4.2: the small points are a ring of eight, and so often must each be added to come to Zero.
func TestSmallOrders(t *testing.T) {
	for i, a := range small() {
		got := made(t, a)
		for n := range 17 {
			want(t, "small times", got.Mul([]byte{byte(n)}), small()[i*n%8])
		}
	}
	for i, n := range []byte{1, 8, 4, 8, 2, 8, 4, 8} {
		got := made(t, small()[i])
		if !got.Mul([]byte{n}).Same(point.Zero()) || n > 1 && got.Mul([]byte{n / 2}).Same(point.Zero()) {
			t.Errorf("the order of small point %d is not %d", i, n)
		}
	}
}

// P4.3: the laws of a group, for three points at a time.
func TestLaws(t *testing.T) {
	if testing.Short() {
		t.Skip("takes seconds")
	}
	points, zero := all(t), point.Zero()
	for i, a := range points {
		if !a.Add(zero).Same(a) || !zero.Add(a).Same(a) || !a.Add(a.Neg()).Same(zero) || !a.Neg().Add(a).Same(zero) {
			t.Errorf("%d with Zero and its Neg", i)
		}
		for j, b := range points {
			if !a.Add(b).Same(b.Add(a)) || !a.Add(b).Add(b.Neg()).Same(a) || !a.Add(b).Neg().Same(a.Neg().Add(b.Neg())) {
				t.Errorf("%d and %d", i, j)
			}
			for k, c := range points {
				if !a.Add(b).Add(c).Same(a.Add(b.Add(c))) {
					t.Errorf("%d, %d, %d in another order", i, j, k)
				}
			}
		}
	}
}

// P4.3: sums stay on the curve: From tells them of their bytes.
func TestSumsStayOnCurve(t *testing.T) {
	for _, a := range all(t) {
		for _, b := range all(t) {
			got, ok := point.From(a.Add(b).Bytes())
			if !ok || !got.Same(a.Add(b)) {
				t.Errorf("the sum of %x and %x is off", a.Bytes(), b.Bytes())
			}
		}
	}
}

// P4.3: Mul goes with sums: of numbers, of points, and one after another.
func TestMulLaws(t *testing.T) {
	numbers := strewn(3)
	for _, n := range numbers {
		n.Rsh(n, 130)
	}
	a, b := made(t, some()[14]), point.Base()
	for _, m := range numbers {
		for _, n := range numbers {
			more, often := new(big.Int).Add(m, n), new(big.Int).Mul(m, n)
			if !a.Mul(low(m, 32)).Add(a.Mul(low(n, 32))).Same(a.Mul(low(more, 32))) {
				t.Errorf("%v and %v times", m, n)
			}
			if !a.Mul(low(m, 32)).Mul(low(n, 32)).Same(a.Mul(low(often, 32))) {
				t.Errorf("%v times %v times", m, n)
			}
			if !a.Add(b).Mul(low(m, 32)).Same(a.Mul(low(m, 32)).Add(b.Mul(low(m, 32)))) {
				t.Errorf("%v times the sum", m)
			}
		}
	}
}

// P4.3: l times Base is Zero, and nothing less is.
func TestOrder(t *testing.T) {
	base := point.Base()
	for times := int64(1); times <= 15; times++ {
		want(t, "Base l times", base.Mul(low(order(times, 0), 32)), knownZero())
		want(t, "and once more", base.Mul(low(order(times, 1), 32)), knownBase())
		want(t, "and once less", base.Mul(low(order(times, -1), 32)), knownBase().neg())
	}
	// l is a prime: an order of the base that is less would go into it, and could but be 1.
	if !l().ProbablyPrime(20) || base.Same(point.Zero()) {
		t.Error("the order of the base is less")
	}
	for _, a := range some() {
		eightfold := new(big.Int).Mul(l(), big.NewInt(8))
		want(t, "any point 8 l times", made(t, a).Mul(low(eightfold, 32)), knownZero())
	}
}

// P4.2, R6: no call changes what it is made on, or what it is given.
func TestValuesStay(t *testing.T) {
	for _, a := range some() {
		got, other := made(t, a), point.Base()
		got.Add(other)
		got.Neg()
		got.Mul([]byte{1, 2, 3})
		got.Same(other)
		got.Small()
		got.Bytes()
		want(t, "made on", got, a)
		want(t, "given", other, knownBase())
	}
}
