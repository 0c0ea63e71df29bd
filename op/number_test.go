package op_test

import (
	"cmp"
	"math/big"
	"testing"

	"viaticum/api"
)

// numbers are those near 0, near the bounds, near powers of 2, near roots and parts of the bounds, and strewn ones.
func numbers() []int64 {
	l := []int64{0, 3037000499, 3037000500, -3037000499, -3037000500, 4294967295, most / 3, least / 3, most / 7, most / 10, least / 10, 1000000007}
	for _, bit := range []int{0, 1, 2, 3, 15, 30, 31, 32, 33, 47, 61, 62, 63} {
		n := int64(1) << bit
		l = append(l, n-1, n, n+1, -n-1, -n, -n+1, ^n)
	}
	x := uint64(3935559000370003845)
	for i := range 40 {
		x = x*6364136223846793005 + 1442695040888963407
		l = append(l, int64(x)>>(i*3/2))
	}
	return l
}

// eachPair hands all pairs of numbers on.
func eachPair(hand func(a, b int64)) {
	for _, a := range numbers() {
		for _, b := range numbers() {
			hand(a, b)
		}
	}
}

// wantNumber fails unless what is told is this number, or ErrOver where it has no room in 64 bits.
func wantNumber(t *testing.T, code int, a, b int64, want *big.Int) {
	t.Helper()
	if !want.IsInt64() {
		wantNoBinary(t, code, num(a), num(b), api.ErrOver)
		return
	}
	wantBinary(t, code, num(a), num(b), num(want.Int64()))
}

// P11.3: the chapter's example.
func TestExample(t *testing.T) {
	wantBinary(t, api.BDiv, num(-7), num(2), num(-3))
}

// P11.3: sums, differences, products of whole numbers, as far as 64 bits go.
func TestReckon(t *testing.T) {
	eachPair(func(a, b int64) {
		x, y := big.NewInt(a), big.NewInt(b)
		wantNumber(t, api.BAdd, a, b, new(big.Int).Add(x, y))
		wantNumber(t, api.BSub, a, b, new(big.Int).Sub(x, y))
		wantNumber(t, api.BMul, a, b, new(big.Int).Mul(x, y))
		if b == 0 {
			wantNoBinary(t, api.BDiv, num(a), num(b), api.ErrZero)
			return
		}
		wantNumber(t, api.BDiv, a, b, new(big.Int).Quo(x, y))
	})
}

// P11.3: small numbers, each with each.
func TestReckonSmall(t *testing.T) {
	for a := int64(-20); a <= 20; a++ {
		for b := int64(-20); b <= 20; b++ {
			x, y := big.NewInt(a), big.NewInt(b)
			wantNumber(t, api.BAdd, a, b, new(big.Int).Add(x, y))
			wantNumber(t, api.BSub, a, b, new(big.Int).Sub(x, y))
			wantNumber(t, api.BMul, a, b, new(big.Int).Mul(x, y))
			if b != 0 {
				wantNumber(t, api.BDiv, a, b, new(big.Int).Quo(x, y))
			}
		}
	}
}

// P11.3: the bounds by hand.
func TestBounds(t *testing.T) {
	wantBinary(t, api.BAdd, num(most), num(least), num(-1))
	wantBinary(t, api.BAdd, num(most-1), num(1), num(most))
	wantNoBinary(t, api.BAdd, num(most), num(1), api.ErrOver)
	wantNoBinary(t, api.BAdd, num(1), num(most), api.ErrOver)
	wantNoBinary(t, api.BAdd, num(most), num(most), api.ErrOver)
	wantBinary(t, api.BAdd, num(least+1), num(-1), num(least))
	wantNoBinary(t, api.BAdd, num(least), num(-1), api.ErrOver)
	wantNoBinary(t, api.BAdd, num(least), num(least), api.ErrOver)

	wantBinary(t, api.BSub, num(-1), num(least), num(most))
	wantNoBinary(t, api.BSub, num(0), num(least), api.ErrOver)
	wantBinary(t, api.BSub, num(-1), num(most), num(least))
	wantNoBinary(t, api.BSub, num(-2), num(most), api.ErrOver)
	wantBinary(t, api.BSub, num(least), num(least), num(0))
	wantBinary(t, api.BSub, num(least), num(0), num(least))
	wantNoBinary(t, api.BSub, num(most), num(-1), api.ErrOver)

	wantNoBinary(t, api.BMul, num(least), num(-1), api.ErrOver)
	wantNoBinary(t, api.BMul, num(-1), num(least), api.ErrOver)
	wantBinary(t, api.BMul, num(most), num(-1), num(-most))
	wantBinary(t, api.BMul, num(-1), num(most), num(-most))
	wantBinary(t, api.BMul, num(least), num(1), num(least))
	wantBinary(t, api.BMul, num(1), num(least), num(least))
	wantBinary(t, api.BMul, num(least), num(0), num(0))
	wantBinary(t, api.BMul, num(0), num(least), num(0))
	wantBinary(t, api.BMul, num(-1<<32), num(1<<31), num(least))
	wantNoBinary(t, api.BMul, num(-1<<32), num(-1<<31), api.ErrOver)
	wantNoBinary(t, api.BMul, num(1<<32), num(1<<32), api.ErrOver)
	wantNoBinary(t, api.BMul, num(least), num(least), api.ErrOver)
	wantBinary(t, api.BMul, num(3037000499), num(3037000499), num(9223372030926249001))
	wantNoBinary(t, api.BMul, num(3037000500), num(3037000500), api.ErrOver)
}

// P11.3: division towards 0, by 0, and the one quotient that has no room.
func TestDivide(t *testing.T) {
	wantBinary(t, api.BDiv, num(7), num(2), num(3))
	wantBinary(t, api.BDiv, num(-7), num(2), num(-3))
	wantBinary(t, api.BDiv, num(7), num(-2), num(-3))
	wantBinary(t, api.BDiv, num(-7), num(-2), num(3))
	wantBinary(t, api.BDiv, num(1), num(2), num(0))
	wantBinary(t, api.BDiv, num(-1), num(2), num(0))
	wantBinary(t, api.BDiv, num(1), num(least), num(0))
	wantBinary(t, api.BDiv, num(least), num(least), num(1))
	wantBinary(t, api.BDiv, num(least), num(most), num(-1))
	wantBinary(t, api.BDiv, num(most), num(least), num(0))
	wantBinary(t, api.BDiv, num(least), num(1), num(least))
	wantBinary(t, api.BDiv, num(least), num(2), num(-1<<62))
	wantBinary(t, api.BDiv, num(most), num(-1), num(-most))
	wantNoBinary(t, api.BDiv, num(least), num(-1), api.ErrOver)
	for _, a := range []int64{0, 1, -1, least, most} {
		wantNoBinary(t, api.BDiv, num(a), num(0), api.ErrZero)
	}
}

// P11.3: which of two numbers, of two dates is the lower one.
func TestCompare(t *testing.T) {
	wantOrder := func(a, b api.Term, c int) {
		t.Helper()
		wantIs(t, api.BLess, a, b, c < 0)
		wantIs(t, api.BMore, a, b, c > 0)
		wantIs(t, api.BLeast, a, b, c <= 0)
		wantIs(t, api.BMost, a, b, c >= 0)
		wantIs(t, api.BSame, a, b, c == 0)
		wantIs(t, api.BOther, a, b, c != 0)
	}
	eachPair(func(a, b int64) { wantOrder(num(a), num(b), cmp.Compare(a, b)) })
	dates := []int64{0, 1, 2, 951868800, 1 << 32, 253402300798, 253402300799}
	for i, a := range dates {
		for k, b := range dates {
			wantOrder(date(a), date(b), cmp.Compare(i, k))
		}
	}
	wantOrder(num(least), num(most), -1)
	wantOrder(num(-1), num(1), -1)
	wantOrder(num(1), num(1), 0)
}

// bits reckons bit by bit, the highest one too.
func bits(a, b int64, of func(x, y uint64) uint64) int64 {
	var sum uint64
	for i := range 64 {
		sum |= of(uint64(a)>>i&1, uint64(b)>>i&1) << i
	}
	return int64(sum)
}

// P11.3: of the 64 bits, those of negative numbers, too.
func TestBits(t *testing.T) {
	wantBinary(t, api.BAndBits, num(12), num(10), num(8))
	wantBinary(t, api.BOrBits, num(12), num(10), num(14))
	wantBinary(t, api.BXorBits, num(12), num(10), num(6))
	wantBinary(t, api.BAndBits, num(-1), num(least), num(least))
	wantBinary(t, api.BAndBits, num(-2), num(-3), num(-4))
	wantBinary(t, api.BOrBits, num(least), num(most), num(-1))
	wantBinary(t, api.BOrBits, num(-8), num(3), num(-5))
	wantBinary(t, api.BXorBits, num(-1), num(10), num(-11))
	wantBinary(t, api.BXorBits, num(-1), num(-1), num(0))
	wantBinary(t, api.BXorBits, num(least), num(most), num(-1))
	eachPair(func(a, b int64) {
		wantBinary(t, api.BAndBits, num(a), num(b), num(bits(a, b, func(x, y uint64) uint64 { return x * y })))
		wantBinary(t, api.BOrBits, num(a), num(b), num(bits(a, b, func(x, y uint64) uint64 { return max(x, y) })))
		wantBinary(t, api.BXorBits, num(a), num(b), num(bits(a, b, func(x, y uint64) uint64 { return (x + y) % 2 })))
	})
}
