package scalar

import "math/bits"

// words is a number of 256 bits, the lowest word first.
type words [4]uint64

// wide is a number of 512 bits, the lowest word first.
type wide [8]uint64

// order is l.
var order = words{0x5812631a5cf5d3ed, 0x14def9dea2f79cd6, 0, 1 << 60}

// fromBytes tells the number of 64 bytes at most, the lowest first.
func fromBytes(b []byte) wide {
	var n wide
	for i, x := range b {
		n[i/8] |= uint64(x) << (i % 8 * 8)
	}
	return n
}

// low tells the lowest four words of n: all of the number, if it came of 32 bytes.
func (n wide) low() words {
	return words{n[0], n[1], n[2], n[3]}
}

// bytes tells the 32 bytes of w, the lowest first.
func (w words) bytes() []byte {
	b := make([]byte, size)
	for i := range b {
		b[i] = byte(w[i/8] >> (i % 8 * 8))
	}
	return b
}

// remainder tells n modulo l by long division, bit by bit from the highest on.
func remainder(n wide) words {
	var rest words
	for i := 64*len(n) - 1; i >= 0; i-- {
		bit := n[i/64] >> (i % 64) & 1
		// rest is below l, and l below 2^253: one bit more always has room, and l goes into that once at most.
		rest, _ = takeOrder(bringDown(rest, bit))
	}
	return rest
}

// bringDown tells w with one bit more at its low end.
func bringDown(w words, bit uint64) words {
	for i := range w {
		w[i], bit = w[i]<<1|bit, w[i]>>63
	}
	return w
}

// takeOrder tells w less l; w itself, and true, if it is below l.
func takeOrder(w words) (words, bool) {
	var less words
	var borrow uint64
	for i := range w {
		less[i], borrow = bits.Sub64(w[i], order[i], borrow)
	}
	if borrow == 1 {
		return w, true
	}
	return less, false
}

// multiplyAdd tells all words of a times b plus c: at most 2^512 - 2^256, so that nothing is carried out of them.
func multiplyAdd(a, b, c words) wide {
	sum := wide{c[0], c[1], c[2], c[3]}
	for i := range a {
		var above uint64
		for j := range b {
			above, sum[i+j] = multiplyWords(a[i], b[j], sum[i+j], above)
		}
		sum[i+len(b)] = above
	}
	return sum
}

// multiplyWords tells the high and the low word of x times y plus m plus n, which two words always hold.
func multiplyWords(x, y, m, n uint64) (high, low uint64) {
	high, low = bits.Mul64(x, y)
	low, carry := bits.Add64(low, m, 0)
	high += carry
	low, carry = bits.Add64(low, n, 0)
	return high + carry, low
}
