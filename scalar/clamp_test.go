package scalar_test

import (
	"bytes"
	"strings"
	"testing"

	"viaticum/scalar"
)

// clamped is what Clamp must tell of b, bit by bit.
func clamped(b []byte) []byte {
	n := number(b)
	for _, bit := range []int{0, 1, 2, 255} {
		n.SetBit(n, bit, 0)
	}
	return low(n.SetBit(n, 254, 1), 32)
}

func wantClamp(t *testing.T, b []byte) {
	t.Helper()
	if got := scalar.Clamp(b); !bytes.Equal(got, clamped(b)) {
		t.Errorf("%x: got %x, want %x", b, got, clamped(b))
	}
}

// P3.2: no bit set, all bits set.
func TestClampOfEnds(t *testing.T) {
	for _, x := range []struct{ b, want string }{
		{strings.Repeat("00", 32), strings.Repeat("00", 31) + "40"},
		{strings.Repeat("ff", 32), "f8" + strings.Repeat("ff", 30) + "7f"},
		{"07" + strings.Repeat("00", 30) + "80", strings.Repeat("00", 31) + "40"},
		{"08" + strings.Repeat("00", 30) + "3f", "08" + strings.Repeat("00", 30) + "7f"},
	} {
		if got := scalar.Clamp(hexBytes(t, x.b)); !bytes.Equal(got, hexBytes(t, x.want)) {
			t.Errorf("%s: got %x, want %s", x.b, got, x.want)
		}
	}
}

// P3.2: each bit by itself, set and not set, and each value of the two bytes that are touched.
func TestClampBits(t *testing.T) {
	for i := range 256 {
		b := make([]byte, 32)
		b[i/8] = 1 << (i % 8)
		wantClamp(t, b)
		for j := range b {
			b[j] = ^b[j]
		}
		wantClamp(t, b)
	}
	for x := range 256 {
		b := bytes.Repeat([]byte{0xa5}, 32)
		b[0], b[31] = byte(x), byte(255-x)
		wantClamp(t, b)
		b[0], b[31] = byte(255-x), byte(x)
		wantClamp(t, b)
	}
}

// P3.2: the number is not reduced, and clamped again it stays.
func TestClampStays(t *testing.T) {
	for _, n := range append(edges(), strewn(50, 256)...) {
		b := low(n, 32)
		wantClamp(t, b)
		once := scalar.Clamp(b)
		if !bytes.Equal(scalar.Clamp(once), once) {
			t.Errorf("%x: clamped again it is another", b)
		}
		if scalar.May(once) {
			t.Errorf("%x: below l, though at least 2^254", once)
		}
	}
}

// P3.2: nothing of other lengths than 32.
func TestClampOfLengths(t *testing.T) {
	wantNothing(t, "nil", scalar.Clamp(nil))
	for n := range 130 {
		if n != 32 {
			wantNothing(t, "noughts", scalar.Clamp(make([]byte, n)))
			wantNothing(t, "all bits set", scalar.Clamp(bytes.Repeat([]byte{0xff}, n)))
		}
	}
}
