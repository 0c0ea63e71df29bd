package field

// Exponents, the lowest word first.
var (
	primeLess2  = words{1<<64 - 21, 1<<64 - 1, 1<<64 - 1, 1<<63 - 1} // p - 2
	primeEighth = words{1<<64 - 3, 1<<64 - 1, 1<<64 - 1, 1<<60 - 1}  // (p - 5) / 8
)

// A root of -1. There is another, p minus this one.
var rootOfMinus1 = words{0xc4ee1b274a0ea0b0, 0x2f431806ad2fe478, 0x2b4d00993dfbd7a7, 0x2b8324804fc1df0b}

// Root tells the x that is not odd, and true, for which v times x times x is u; 0 and false if there is none.
func Root(u, v Elem) (Elem, bool) {
	x := rootOfUnits(u, v)
	found := v.Mul(x).Mul(x)
	if !found.Same(u) {
		// As often as not the square is off by -1, and a root of that puts it right.
		x = x.Mul(Elem{rootOfMinus1})
		found = found.Neg()
	}
	if !found.Same(u) {
		return Elem{}, false
	}
	if x.IsOdd() {
		x = x.Neg()
	}
	return x, true
}

// rootOfUnits tells an x for which v times x times x is u times a root of 1 of the fourth degree: 1 or -1 if u by v is a square at all. It is 0 if u or v is.
func rootOfUnits(u, v Elem) Elem {
	// u by v, to the (p + 3) / 8; written so that nothing has to be inverted.
	v3 := v.Mul(v).Mul(v)
	v7 := v3.Mul(v3).Mul(v)
	return u.Mul(v3).Mul(u.Mul(v7).power(primeEighth))
}

// power tells a to the exponent, bit by bit from the highest on; each bit picks an operation from the row.
func (a Elem) power(exponent words) Elem {
	row := [2]func(soFar, a Elem) Elem{Elem.squareAlone, Elem.squareTimes}
	soFar := Small(1)
	for i := 255; i >= 0; i-- {
		bit := exponent[i/64] >> (i % 64) & 1
		soFar = row[bit](soFar, a)
	}
	return soFar
}

// squareAlone tells a times a. It is given b because all operations of the row are.
func (a Elem) squareAlone(b Elem) Elem {
	return a.Mul(a)
}

// squareTimes tells a times a times b.
func (a Elem) squareTimes(b Elem) Elem {
	return a.Mul(a).Mul(b)
}
