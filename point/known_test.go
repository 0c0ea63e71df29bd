package point_test

import (
	"bytes"
	"math/big"
	"slices"
	"testing"

	"viaticum/point"
)

// known is a point as another program has it: its coordinates, 0 to p - 1.
type known struct{ x, y *big.Int }

// hexNumber is a number in base 16, the highest digit first, as the chapter writes it.
func hexNumber(s string) *big.Int {
	n, _ := new(big.Int).SetString(s, 16)
	return n
}

// near is 2^power + more.
func near(power uint, more int64) *big.Int {
	n := new(big.Int).Lsh(big.NewInt(1), power)
	return n.Add(n, big.NewInt(more))
}

// p is 2^255 - 19.
func p() *big.Int {
	return near(255, -19)
}

// l is the order of the base, as DOC.md writes it.
func l() *big.Int {
	more, _ := new(big.Int).SetString("27742317777372353535851937790883648493", 10)
	return more.Add(more, near(252, 0))
}

// order is times l + more.
func order(times, more int64) *big.Int {
	n := new(big.Int).Mul(l(), big.NewInt(times))
	return n.Add(n, big.NewInt(more))
}

// product is the product of all modulo p.
func product(all ...*big.Int) *big.Int {
	n := big.NewInt(1)
	for _, x := range all {
		n.Mul(n, x).Mod(n, p())
	}
	return n
}

// sum is the sum of a and b modulo p.
func sum(a, b *big.Int) *big.Int {
	n := new(big.Int).Add(a, b)
	return n.Mod(n, p())
}

// minus is 0 minus a modulo p.
func minus(a *big.Int) *big.Int {
	n := new(big.Int).Neg(a)
	return n.Mod(n, p())
}

// inverse is 1 by a modulo p.
func inverse(a *big.Int) *big.Int {
	return new(big.Int).ModInverse(a, p())
}

func knownD() *big.Int {
	return hexNumber("52036cee2b6ffe738cc740797779e89800700a4d4141d8ab75eb4dca135978a3")
}

func knownZero() known {
	return known{big.NewInt(0), big.NewInt(1)}
}

func knownBase() known {
	return known{
		hexNumber("216936d3cd6e53fec0a4e231fdd6dc5c692cc7609525a7b2c9562d608f25d51a"),
		hexNumber("6666666666666666666666666666666666666666666666666666666666666658"),
	}
}

// add is the chapter's sum, with its two divisions.
func (a known) add(b known) known {
	one, bend := big.NewInt(1), product(knownD(), a.x, b.x, a.y, b.y)
	x := sum(product(a.x, b.y), product(b.x, a.y))
	y := sum(product(a.y, b.y), product(a.x, b.x))
	return known{product(x, inverse(sum(one, bend))), product(y, inverse(sum(one, minus(bend))))}
}

func (a known) neg() known {
	return known{minus(a.x), a.y}
}

// times is a as often as n says, from the lowest bit of n on.
func (a known) times(n *big.Int) known {
	out := knownZero()
	for i := range n.BitLen() {
		if n.Bit(i) == 1 {
			out = out.add(a)
		}
		a = a.add(a)
	}
	return out
}

func (a known) same(b known) bool {
	return a.x.Cmp(b.x) == 0 && a.y.Cmp(b.y) == 0
}

func (a known) bytes() []byte {
	return packed(a.y, a.x.Bit(0) == 1)
}

// onCurve tells whether -x^2 + y^2 is 1 + d x^2 y^2.
func (a known) onCurve() bool {
	xx, yy := product(a.x, a.x), product(a.y, a.y)
	return sum(yy, minus(xx)).Cmp(sum(big.NewInt(1), product(knownD(), xx, yy))) == 0
}

// knownAt is the point at y whose x is odd or not, and whether there is one.
func knownAt(y *big.Int, odd bool) (known, bool) {
	one, yy := big.NewInt(1), product(y, y)
	x := product(sum(yy, minus(one)), inverse(sum(one, product(knownD(), yy))))
	if x.ModSqrt(x, p()) == nil {
		return known{}, false
	}
	if odd != (x.Bit(0) == 1) {
		x = minus(x)
	}
	return known{x, y}, odd == (x.Bit(0) == 1)
}

// low is n's bytes, the lowest first, at least size of them.
func low(n *big.Int, size int) []byte {
	b := n.Bytes()
	slices.Reverse(b)
	for len(b) < size {
		b = append(b, 0)
	}
	return b
}

// packed is 32 bytes of y, which may be anything below 2^255, and the highest bit.
func packed(y *big.Int, bit bool) []byte {
	b := low(y, 32)
	if bit {
		b[31] |= 0x80
	}
	return b
}

// made is the point that a is, of its bytes.
func made(t *testing.T, a known) point.Point {
	t.Helper()
	got, ok := point.From(a.bytes())
	if !ok {
		t.Fatalf("From tells false of %x", a.bytes())
	}
	return got
}

// want complains unless got is a, by its bytes and by all that may be held against it.
func want(t *testing.T, what string, got point.Point, a known) {
	t.Helper()
	if b := got.Bytes(); !bytes.Equal(b, a.bytes()) {
		t.Errorf("%s: got %x, want %x", what, b, a.bytes())
	}
	if again := made(t, a); !got.Same(again) || !again.Same(got) {
		t.Errorf("%s: not the same as what From tells of its bytes", what)
	}
}

// strewn are n numbers of 256 bits at most without a pattern, the same each time.
func strewn(n int) []*big.Int {
	x, factor := big.NewInt(7), new(big.Int).Sub(near(253, 0), near(128, 55))
	var out []*big.Int
	for range n {
		x = new(big.Int).Mul(x, factor)
		x.Add(x, near(200, 12345)).Mod(x, near(256, -189))
		out = append(out, x)
	}
	return out
}

// small are the eight points of small order; the i-th is i times the second.
func small() []known {
	eighth := hexNumber("7a03ac9277fdc74ec6cc392cfa53202a0f67100d760b3cba4fd84d3d706a17c7")
	first, _ := knownAt(eighth, false)
	out := []known{knownZero()}
	for len(out) < 8 {
		out = append(out, out[len(out)-1].add(first))
	}
	return out
}

// some are points of all kinds: of small order, of the base's, of neither.
func some() []known {
	base := knownBase()
	out := append(small(), base, base.neg(), base.add(base))
	for i, n := range strewn(3) {
		many := base.times(n)
		out = append(out, many, many.add(small()[2*i+1]))
	}
	return out
}
