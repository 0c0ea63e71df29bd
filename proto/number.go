package proto

const (
	groupBits = 7
	groupMask = 1<<groupBits - 1
	moreBit   = 1 << groupBits // another byte follows
)

// Varint tells the bytes of a number: seven bits each, the lowest first.
func Varint(n uint64) []byte {
	var b []byte
	for n > groupMask {
		b = append(b, byte(n&groupMask|moreBit))
		n >>= groupBits
	}
	return append(b, byte(n))
}

// Zig tells a number without a sign, small where n is near 0: 2 n, or -2 n - 1 below 0.
func Zig(n int64) uint64 {
	if n < 0 {
		// -n - 1 is ^n, and that has room even where -n has none.
		return uint64(^n)<<1 | 1
	}
	return uint64(n) << 1
}

// Zag tells the number of which Zig tells n.
func Zag(n uint64) int64 {
	half := int64(n >> 1)
	if n&1 != 0 {
		return ^half
	}
	return half
}
