package scalar_test

import (
	"bytes"
	"encoding/hex"
	"math/big"
	"slices"
	"strings"
	"testing"

	"viaticum/scalar"
)

// l is the order of the curve, as DOC.md writes it.
func l() *big.Int {
	more, _ := new(big.Int).SetString("27742317777372353535851937790883648493", 10)
	return more.Add(more, near(252, 0))
}

// near is 2^power + more.
func near(power uint, more int64) *big.Int {
	n := new(big.Int).Lsh(big.NewInt(1), power)
	return n.Add(n, big.NewInt(more))
}

// order is times l + more.
func order(times, more int64) *big.Int {
	n := new(big.Int).Mul(l(), big.NewInt(times))
	return n.Add(n, big.NewInt(more))
}

// low is n's bytes, the lowest first, at least size of them.
func low(n *big.Int, size int) []byte {
	b := n.Bytes()
	slices.Reverse(b)
	for len(b) < size {
		b = append(b, 0)
	}
	return b
}

// number is what b says, the lowest byte first.
func number(b []byte) *big.Int {
	b = slices.Clone(b)
	slices.Reverse(b)
	return new(big.Int).SetBytes(b)
}

// hexBytes is the bytes of a text in base 16.
func hexBytes(t *testing.T, s string) []byte {
	t.Helper()
	b, err := hex.DecodeString(s)
	if err != nil {
		t.Fatal(err)
	}
	return b
}

// want complains unless got is the 32 bytes of n modulo l.
func want(t *testing.T, what string, got []byte, n *big.Int) {
	t.Helper()
	n = new(big.Int).Mod(n, l())
	if !bytes.Equal(got, low(n, 32)) {
		t.Errorf("%s: got %x, want %x", what, got, low(n, 32))
	}
}

// wantNothing complains unless got is nothing.
func wantNothing(t *testing.T, what string, got []byte) {
	t.Helper()
	if len(got) != 0 {
		t.Errorf("%s: got %x, want nothing", what, got)
	}
}

// edges are numbers of 32 bytes at their ends, round multiples of l, and round the ends of words.
func edges() []*big.Int {
	var out []*big.Int
	for n := int64(0); n <= 3; n++ {
		out = append(out, big.NewInt(n), near(256, -1-n))
	}
	for times := int64(1); times <= 15; times++ { // 15 l is the greatest that 32 bytes hold
		for more := int64(-2); more <= 2; more++ {
			out = append(out, order(times, more))
		}
	}
	for _, power := range []uint{8, 63, 64, 65, 124, 125, 127, 128, 191, 192, 248, 251, 252, 253, 254, 255} {
		for more := int64(-1); more <= 1; more++ {
			out = append(out, near(power, more))
		}
	}
	return out
}

// strewn are n numbers of at most so many bits without a pattern, the same each time.
func strewn(n int, bits uint) []*big.Int {
	x := big.NewInt(7)
	factor := new(big.Int).Sub(near(bits-3, 0), near(bits/2, 55))
	var out []*big.Int
	for range n {
		x = new(big.Int).Mul(x, factor)
		x.Add(x, near(bits-60, 12345)).Mod(x, near(bits, -189))
		out = append(out, x)
	}
	return out
}

// some are edges and strewn numbers of 32 bytes, few enough to take three at a time.
func some() []*big.Int {
	out := []*big.Int{big.NewInt(0), big.NewInt(1), big.NewInt(2), order(1, -2), order(1, -1), order(1, 0), order(1, 1), order(2, 0), order(15, 0), near(64, -1), near(128, 0), near(252, 0), near(255, 0), near(256, -2), near(256, -1)}
	return append(out, strewn(5, 256)...)
}

// P3.1: May at both ends of what may be, and of 32 bytes.
func TestMayOfNumbers(t *testing.T) {
	for _, n := range append(edges(), strewn(200, 256)...) {
		if got := scalar.May(low(n, 32)); got != (n.Cmp(l()) < 0) {
			t.Errorf("%v: May tells %v", n, got)
		}
	}
	for more := int64(-300); more <= 300; more++ {
		if got := scalar.May(low(order(1, more), 32)); got != (more < 0) {
			t.Errorf("l and %d: May tells %v", more, got)
		}
	}
}

// P3.1: each byte counts by its place: from l on the number is moved up or down in one byte alone.
func TestMayByteByByte(t *testing.T) {
	for i := range 32 {
		for _, base := range []*big.Int{order(1, -1), order(1, 0)} {
			for x := range 256 {
				b := low(base, 32)
				b[i] = byte(x)
				if got := scalar.May(b); got != (number(b).Cmp(l()) < 0) {
					t.Errorf("%x: May tells %v", b, got)
				}
			}
		}
	}
}

// P3.1: May of other lengths is false, whatever they say.
func TestMayOfLengths(t *testing.T) {
	for n := range 130 {
		if got := scalar.May(make([]byte, n)); got != (n == 32) {
			t.Errorf("%d bytes: May tells %v", n, got)
		}
		if n != 32 && scalar.May(bytes.Repeat([]byte{0x01}, n)) {
			t.Errorf("%d bytes of 01: May tells true", n)
		}
	}
	if scalar.May(nil) {
		t.Error("nil: May tells true")
	}
}

// P3.1: Reduce round all multiples of l that 32 bytes hold, and round the ends of words.
func TestReduceOf32Bytes(t *testing.T) {
	for _, n := range append(edges(), strewn(200, 256)...) {
		want(t, "Reduce", scalar.Reduce(low(n, 32)), n)
	}
}

// P3.1: Reduce round multiples of l of 64 bytes: those by powers of 2, the greatest one, and between.
func TestReduceOf64Bytes(t *testing.T) {
	for _, times := range wideTimes() {
		for more := int64(-2); more <= 2; more++ {
			n := new(big.Int).Mul(l(), times)
			n.Add(n, big.NewInt(more))
			if n.Sign() >= 0 && n.BitLen() <= 512 {
				want(t, "round a multiple", scalar.Reduce(low(n, 64)), n)
			}
		}
	}
	for n := int64(1); n <= 40; n++ {
		want(t, "round the greatest", scalar.Reduce(low(near(512, -n), 64)), near(512, -n))
	}
	for _, n := range strewn(500, 512) {
		want(t, "strewn", scalar.Reduce(low(n, 64)), n)
	}
}

// wideTimes are numbers by which l is told at most 64 bytes long.
func wideTimes() []*big.Int {
	greatest := new(big.Int).Div(near(512, -1), l())
	out := []*big.Int{big.NewInt(0), greatest, l(), order(1, -1), order(1, 1)}
	for power := range uint(260) {
		out = append(out, near(power, -1), near(power, 0), near(power, 1))
	}
	return append(out, strewn(50, 259)...)
}

// P3.1: each bit of 64 bytes counts for itself.
func TestReduceBits(t *testing.T) {
	for i := range 512 {
		b := make([]byte, 64)
		b[i/8] = 1 << (i % 8)
		want(t, "one bit", scalar.Reduce(b), near(uint(i), 0))
		for j := range b {
			b[j] = ^b[j]
		}
		want(t, "all bits but one", scalar.Reduce(b), new(big.Int).Sub(near(512, -1), near(uint(i), 0)))
	}
}

// P3.1: Reduce of no bytes to 64 tells 32 bytes, of more nothing.
func TestReduceOfLengths(t *testing.T) {
	want(t, "nil", scalar.Reduce(nil), big.NewInt(0))
	want(t, "empty", scalar.Reduce([]byte{}), big.NewInt(0))
	for n := range 65 {
		want(t, "noughts", scalar.Reduce(make([]byte, n)), big.NewInt(0))
		b := bytes.Repeat([]byte{0xff}, n)
		want(t, "all bits set", scalar.Reduce(b), near(uint(8*n), -1))
	}
	for _, n := range []int{65, 66, 96, 128, 1000, 65536} {
		wantNothing(t, "too many noughts", scalar.Reduce(make([]byte, n)))
		wantNothing(t, "too many bytes", scalar.Reduce(bytes.Repeat([]byte{0xff}, n)))
	}
}

// P3.1: what the chapter shows.
func TestExample(t *testing.T) {
	b := hexBytes(t, "edd3f55c1a631258d69cf7a2def9de14"+strings.Repeat("00", 15)+"10")
	if got := scalar.Reduce(b); !bytes.Equal(got, make([]byte, 32)) {
		t.Errorf("got %x", got)
	}
	if scalar.May(b) {
		t.Error("May of l tells true")
	}
	b[0]--
	if got := scalar.Reduce(b); !bytes.Equal(got, b) || !scalar.May(b) {
		t.Errorf("got %x of l - 1", got)
	}
}

// P3.1: Reduce's answers may be, and are what they were when reduced again.
func TestReducedMayBe(t *testing.T) {
	for _, n := range append(edges(), strewn(100, 512)...) {
		b := scalar.Reduce(low(n, 32))
		if !scalar.May(b) || !bytes.Equal(scalar.Reduce(b), b) {
			t.Errorf("%v: reduced to %x", n, b)
		}
	}
}

// P3.1: Add of any two numbers of 32 bytes, held against another program's numbers.
func TestAdd(t *testing.T) {
	numbers := append(edges(), strewn(60, 256)...)
	for _, m := range numbers {
		for _, n := range numbers {
			want(t, "Add", scalar.Add(low(m, 32), low(n, 32)), new(big.Int).Add(m, n))
			if t.Failed() {
				t.Fatalf("of %v and %v", m, n)
			}
		}
	}
}

// wantMulAdd complains unless MulAdd tells k times m plus n.
func wantMulAdd(t *testing.T, k, m, n *big.Int) {
	t.Helper()
	sum := new(big.Int).Mul(k, m)
	want(t, "MulAdd", scalar.MulAdd(low(k, 32), low(m, 32), low(n, 32)), sum.Add(sum, n))
	if t.Failed() {
		t.Fatalf("of %v, %v and %v", k, m, n)
	}
}

// P3.1: MulAdd of any three numbers of 32 bytes, held against another program's numbers.
func TestMulAdd(t *testing.T) {
	for _, k := range some() {
		for _, m := range some() {
			for _, n := range some() {
				wantMulAdd(t, k, m, n)
			}
		}
	}
	numbers := append(edges(), strewn(40, 256)...)
	for i, k := range numbers {
		for j, m := range numbers {
			wantMulAdd(t, k, m, numbers[(i+j)%len(numbers)])
		}
	}
}

// P3.1: all carries at once: the greatest numbers of 32 bytes fill 64 bytes to the brim.
func TestMulAddOfGreatest(t *testing.T) {
	top := near(256, -1)
	for more := int64(0); more <= 20; more++ {
		wantMulAdd(t, top, top, near(256, -1-more))
		wantMulAdd(t, near(256, -1-more), top, top)
		wantMulAdd(t, top, near(256, -1-more), top)
	}
	top32, noughts := low(top, 32), make([]byte, 32)
	if !bytes.Equal(scalar.MulAdd(top32, top32, top32), scalar.Reduce(append(noughts, top32...))) {
		t.Error("the greatest is not 2^256 times the greatest of 32 bytes")
	}
}

// P3.1: a number that is not below l counts for what is left of it by l, in every place.
func TestNotBelowOrder(t *testing.T) {
	a, b, c := big.NewInt(5), order(1, -3), near(200, 9)
	for times := int64(1); times <= 14; times++ {
		for i := range 3 {
			operands := []*big.Int{a, b, c}
			operands[i] = new(big.Int).Add(operands[i], order(times, 0))
			x, y, z := low(operands[0], 32), low(operands[1], 32), low(operands[2], 32)
			want(t, "Add", scalar.Add(x, y), new(big.Int).Add(a, b))
			product := new(big.Int).Mul(a, b)
			want(t, "MulAdd", scalar.MulAdd(x, y, z), product.Add(product, c))
		}
	}
}

// P3.1: Add and MulAdd tell nothing if one of what they are given has not 32 bytes.
func TestSumsOfLengths(t *testing.T) {
	whole := low(near(250, 3), 32)
	for n := range 100 {
		if n == 32 {
			continue
		}
		for _, other := range [][]byte{make([]byte, n), bytes.Repeat([]byte{0x0f}, n)} {
			wantNothing(t, "Add, first", scalar.Add(other, whole))
			wantNothing(t, "Add, second", scalar.Add(whole, other))
			wantNothing(t, "Add, both", scalar.Add(other, other))
			wantNothing(t, "MulAdd, first", scalar.MulAdd(other, whole, whole))
			wantNothing(t, "MulAdd, second", scalar.MulAdd(whole, other, whole))
			wantNothing(t, "MulAdd, third", scalar.MulAdd(whole, whole, other))
			wantNothing(t, "MulAdd, all", scalar.MulAdd(other, other, other))
		}
	}
	wantNothing(t, "Add of nil", scalar.Add(nil, nil))
	wantNothing(t, "MulAdd of nil", scalar.MulAdd(nil, nil, nil))
	wantNothing(t, "MulAdd by nil", scalar.MulAdd(make([]byte, 32), nil, whole))
}
