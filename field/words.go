package field

import "math/bits"

// words is a number of 256 bits, the lowest word first.
type words [4]uint64

const (
	highBit = 1 << 63 // of the highest word: 2^255 of the number
	excess  = 19      // what 2^255 is modulo p
)

// reduce tells w modulo p, whatever w is.
func reduce(w words) words {
	high := w[3] / highBit
	w[3] %= highBit
	w, _ = add(w, words{excess * high})
	// w is now at most 2^255 + 18, and p goes into it once at most: just if w + 19 reaches 2^255.
	over, _ := add(w, words{excess})
	if over[3] < highBit {
		return w
	}
	over[3] -= highBit
	return over
}

// fold tells the number of the eight words modulo p.
func fold(n [8]uint64) words {
	low, high := words{n[0], n[1], n[2], n[3]}, words{n[4], n[5], n[6], n[7]}
	// 2^256 is twice 19: what lies above counts for 38 times itself below.
	above, below := scale(high, 2*excess)
	w, carry := add(low, below)
	// The first time at most 38 is above, and the second time at most 1: then w is so small that nothing more comes.
	for above += carry; above != 0; {
		w, above = add(w, words{2 * excess * above})
	}
	return reduce(w)
}

// fromPrime tells p minus w, for w of at most p.
func fromPrime(w words) words {
	p := words{1<<64 - excess, 1<<64 - 1, 1<<64 - 1, highBit - 1}
	var borrow uint64
	for i := range w {
		w[i], borrow = bits.Sub64(p[i], w[i], borrow)
	}
	return w
}

// add tells the low words of a plus b, and what is carried out of them.
func add(a, b words) (words, uint64) {
	var carry uint64
	for i := range a {
		a[i], carry = bits.Add64(a[i], b[i], carry)
	}
	return a, carry
}

// scale tells a times by: the word above the four, and the four.
func scale(a words, by uint64) (uint64, words) {
	var above uint64
	for i := range a {
		above, a[i] = multiplyAdd(a[i], by, above, 0)
	}
	return above, a
}

// multiply tells all words of a times b.
func multiply(a, b words) [8]uint64 {
	var product [8]uint64
	for i := range a {
		var above uint64
		for j := range b {
			above, product[i+j] = multiplyAdd(a[i], b[j], product[i+j], above)
		}
		product[i+4] = above
	}
	return product
}

// multiplyAdd tells the high and the low word of x times y plus m plus n, which two words always hold.
func multiplyAdd(x, y, m, n uint64) (high, low uint64) {
	high, low = bits.Mul64(x, y)
	low, carry := bits.Add64(low, m, 0)
	high += carry
	low, carry = bits.Add64(low, n, 0)
	return high + carry, low
}
