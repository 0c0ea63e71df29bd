package proto_test

import (
	"bytes"
	"encoding/binary"
	"math"
	"testing"

	"viaticum/proto"
)

// numbers are all about the borders of bits and of sevens of bits, and some without a pattern, the same each time.
func numbers() []uint64 {
	out := []uint64{0, 1, 2, 5, 300, 0x0102030405060708, 0x8070605040302010}
	for bit := range 64 {
		n := uint64(1) << bit
		out = append(out, n-1, n, n+1, ^n, -n)
	}
	x := uint64(0x9e3779b97f4a7c15)
	for i := range 2000 {
		x = x*6364136223846793005 + 1442695040888963407
		out = append(out, x>>(i%64))
	}
	return out
}

// P6.1: how numbers are written, by hand, at each border of seven bits.
func TestVarintOfKnown(t *testing.T) {
	for _, x := range []struct {
		n    uint64
		want string
	}{
		{0, "00"}, {1, "01"}, {127, "7f"}, {128, "8001"}, {129, "8101"}, {255, "ff01"}, {256, "8002"}, {300, "ac02"},
		{1<<14 - 1, "ff7f"}, {1 << 14, "808001"},
		{1<<21 - 1, "ffff7f"}, {1 << 21, "80808001"},
		{1<<28 - 1, "ffffff7f"}, {1 << 28, "8080808001"},
		{1<<35 - 1, "ffffffff7f"}, {1 << 35, "808080808001"},
		{1<<42 - 1, "ffffffffff7f"}, {1 << 42, "80808080808001"},
		{1<<49 - 1, "ffffffffffff7f"}, {1 << 49, "8080808080808001"},
		{1<<56 - 1, "ffffffffffffff7f"}, {1 << 56, "808080808080808001"},
		{1<<63 - 1, "ffffffffffffffff7f"}, {1 << 63, "80808080808080808001"},
		{math.MaxUint64, "ffffffffffffffffff01"},
	} {
		wantBytes(t, "Varint", proto.Varint(x.n), hexBytes(t, x.want))
	}
}

// P6.1: as another program writes them.
func TestVarintOfNumbers(t *testing.T) {
	for _, n := range numbers() {
		wantBytes(t, "Varint", proto.Varint(n), binary.AppendUvarint(nil, n))
	}
}

// P6.1: no needless byte, and a highest bit on each byte but the last.
func TestVarintIsShort(t *testing.T) {
	for _, n := range numbers() {
		b := proto.Varint(n)
		if len(b) == 0 || len(b) > 10 || len(b) > 1 && b[len(b)-1] == 0 {
			t.Fatalf("%d: %x", n, b)
		}
		for i, c := range b {
			if more := c >= 0x80; more != (i < len(b)-1) {
				t.Errorf("%d: %x: byte %d", n, b, i)
			}
		}
	}
}

// P6.1, R2: what is told is the caller's own.
func TestVarintIsNew(t *testing.T) {
	for _, n := range []uint64{0, 127, 128, math.MaxUint64} {
		first, second := proto.Varint(n), proto.Varint(n)
		want := bytes.Clone(second)
		spoil(first)
		wantBytes(t, "told before", second, want)
		wantBytes(t, "told afterwards", proto.Varint(n), want)
	}
}

// P6.1: signs, at their ends and about 0.
func TestZigZagOfKnown(t *testing.T) {
	for _, x := range []struct {
		n   int64
		zig uint64
	}{
		{0, 0}, {-1, 1}, {1, 2}, {-2, 3}, {2, 4}, {-64, 127}, {64, 128}, {-65, 129},
		{math.MaxInt32, 1<<32 - 2}, {math.MinInt32, 1<<32 - 1}, {math.MaxInt32 + 1, 1 << 32},
		{1 << 62, 1 << 63}, {-1 << 62, 1<<63 - 1},
		{math.MaxInt64 - 1, math.MaxUint64 - 3}, {math.MinInt64 + 1, math.MaxUint64 - 2},
		{math.MaxInt64, math.MaxUint64 - 1}, {math.MinInt64, math.MaxUint64},
	} {
		if got := proto.Zig(x.n); got != x.zig {
			t.Errorf("Zig(%d): got %d, want %d", x.n, got, x.zig)
		}
		if got := proto.Zag(x.zig); got != x.n {
			t.Errorf("Zag(%d): got %d, want %d", x.zig, got, x.n)
		}
	}
}

// P6.1: Zag is back, whichever comes first; and as another program has it.
func TestZigZagOfNumbers(t *testing.T) {
	for _, n := range numbers() {
		if got := proto.Zig(proto.Zag(n)); got != n {
			t.Errorf("Zig of Zag(%d): got %d", n, got)
		}
		signed := int64(n)
		if got := proto.Zag(proto.Zig(signed)); got != signed {
			t.Errorf("Zag of Zig(%d): got %d", signed, got)
		}
		wantBytes(t, "Varint of Zig", proto.Varint(proto.Zig(signed)), binary.AppendVarint(nil, signed))
	}
}
