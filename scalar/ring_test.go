package scalar_test

import (
	"bytes"
	"testing"

	"viaticum/scalar"
)

// mul is a times b.
func mul(a, b []byte) []byte {
	return scalar.MulAdd(a, b, make([]byte, 32))
}

// ringNumbers are the bytes of some numbers, not all of them below l.
func ringNumbers() [][]byte {
	var out [][]byte
	for _, n := range some() {
		out = append(out, low(n, 32))
	}
	return out
}

// same complains unless all of them are the same, and there is something.
func same(t *testing.T, what string, first []byte, others ...[]byte) {
	t.Helper()
	for _, other := range others {
		if len(first) != 32 || !bytes.Equal(first, other) {
			t.Errorf("%s: %x and %x", what, first, other)
		}
	}
}

// P3.3: 0 and 1 leave a number as it is, and l less it takes it away.
func TestRingOfOne(t *testing.T) {
	zero, one := make([]byte, 32), low(near(0, 0), 32)
	minus1 := low(order(1, -1), 32)
	for _, a := range ringNumbers() {
		reduced := scalar.Reduce(a)
		same(t, "plus 0", reduced, scalar.Add(a, zero), scalar.Add(zero, a), scalar.Add(reduced, zero))
		same(t, "times 1", reduced, mul(a, one), mul(one, a), scalar.MulAdd(zero, a, a))
		same(t, "times 0", zero, mul(a, zero), mul(zero, a))
		same(t, "less itself", zero, scalar.Add(a, mul(a, minus1)), scalar.MulAdd(minus1, a, a))
		same(t, "twice", scalar.Add(a, a), mul(a, scalar.Add(one, one)), scalar.MulAdd(a, one, a))
	}
}

// P3.3: two in either order.
func TestRingOfTwo(t *testing.T) {
	for _, a := range ringNumbers() {
		for _, b := range ringNumbers() {
			same(t, "sum", scalar.Add(a, b), scalar.Add(b, a), scalar.Add(scalar.Reduce(a), b), scalar.Add(a, scalar.Reduce(b)))
			same(t, "product", mul(a, b), mul(b, a), mul(scalar.Reduce(a), b), mul(a, scalar.Reduce(b)))
		}
	}
}

// P3.3: three in any order, and a sum multiplied is its parts multiplied.
func TestRingOfThree(t *testing.T) {
	for _, a := range ringNumbers() {
		for _, b := range ringNumbers() {
			for _, c := range ringNumbers() {
				same(t, "sum", scalar.Add(scalar.Add(a, b), c), scalar.Add(a, scalar.Add(b, c)), scalar.Add(scalar.Add(c, a), b))
				same(t, "product", mul(mul(a, b), c), mul(a, mul(b, c)), mul(mul(c, a), b))
				same(t, "product and number", scalar.MulAdd(a, b, c), scalar.Add(mul(a, b), c), scalar.MulAdd(b, a, c))
				same(t, "product of a sum", mul(scalar.Add(a, b), c), scalar.Add(mul(a, c), mul(b, c)), scalar.MulAdd(a, c, mul(b, c)))
			}
		}
	}
}

// calls are all that the package does with numbers, each of them given three.
func calls() map[string]func(a, b, c []byte) []byte {
	return map[string]func(a, b, c []byte) []byte{
		"Reduce": func(a, b, c []byte) []byte { return scalar.Reduce(a) },
		"Add":    func(a, b, c []byte) []byte { return scalar.Add(a, b) },
		"MulAdd": scalar.MulAdd,
		"Clamp":  func(a, b, c []byte) []byte { return scalar.Clamp(a) },
		"May": func(a, b, c []byte) []byte {
			if scalar.May(a) {
				return []byte{1}
			}
			return []byte{0}
		},
	}
}

// R2: what is handed in stays, and what lies behind its length counts for nothing and stays.
func TestGivenStays(t *testing.T) {
	for what, call := range calls() {
		for _, n := range some() {
			whole := bytes.Repeat(append(low(n, 32), 0xa5, 0x5a), 3)
			before := bytes.Clone(whole)
			answer := call(whole[:32], whole[34:66], whole[68:100])
			if !bytes.Equal(whole, before) {
				t.Errorf("%s of %v: changed what it was given", what, n)
			}
			alone := low(n, 32)
			if !bytes.Equal(answer, call(alone, alone, alone)) {
				t.Errorf("%s of %v: hangs on what lies behind", what, n)
			}
		}
	}
}

// R2: what is told shares no memory with what is handed in, nor with what was told before, not even behind its length.
func TestToldIsNew(t *testing.T) {
	for what, call := range calls() {
		for _, n := range some() {
			a := low(n, 32)
			before := bytes.Clone(a)
			first, second := call(a, a, a), call(a, a, a)
			right := bytes.Clone(second)
			first = first[:cap(first)]
			for i := range first {
				first[i] ^= 0xff
			}
			if !bytes.Equal(a, before) || !bytes.Equal(second, right) {
				t.Errorf("%s of %v: what was told hangs on others", what, n)
			}
			clear(a)
			if !bytes.Equal(second, right) {
				t.Errorf("%s of %v: what was given is kept", what, n)
			}
		}
	}
}
