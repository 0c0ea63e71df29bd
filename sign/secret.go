package sign

import (
	"viaticum/point"
	"viaticum/scalar"
	"viaticum/sha"
)

// secret is what only the holder of a seed can make of it.
type secret struct {
	number []byte // the public key is the base as often as this says
	prefix []byte // hashed ahead of what is signed, so that nobody else can tell R's number
}

// secretOf tells the secret of a seed.
func secretOf(seed []byte) secret {
	sum := sha.Sum(seed)
	return secret{scalar.Clamp(sum[:seedSize]), sum[seedSize:]}
}

// public tells the bytes of the point that everybody may know.
func (s secret) public() []byte {
	return point.Base().Mul(s.number).Bytes()
}

// sign tells R, and S behind it.
func (s secret) sign(msg []byte) []byte {
	r := hashed(s.prefix, msg)
	first := point.Base().Mul(r).Bytes()
	h := hashed(first, s.public(), msg)
	return append(first, scalar.MulAdd(h, s.number, r)...)
}

// hashed tells the sum of all parts, one behind the other, as a number below l.
func hashed(parts ...[]byte) []byte {
	h := sha.New()
	each(parts, h.Write)
	return scalar.Reduce(h.Sum())
}

// each hands every part to take, from the first on.
func each(parts [][]byte, take func([]byte)) {
	for _, part := range parts {
		take(part)
	}
}
