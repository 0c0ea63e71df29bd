package sha_test

import (
	"bytes"
	"crypto/sha512"
	"encoding/hex"
	"testing"

	"viaticum/sha"
)

// pattern is n bytes of which no two pieces are the same.
func pattern(n int) []byte {
	b := make([]byte, n)
	for i := range b {
		b[i] = byte(i*i + i/128)
	}
	return b
}

// known is the sum of b by another program.
func known(b []byte) []byte {
	s := sha512.Sum512(b)
	return s[:]
}

func wantSum(t *testing.T, what string, got, want []byte) {
	t.Helper()
	if !bytes.Equal(got, want) {
		t.Errorf("%s: got %x, want %x", what, got, want)
	}
}

// borders are lengths round the ends of pieces, and round the 112 ahead of the length.
func borders() []int {
	var out []int
	for piece := 0; piece <= 3; piece++ {
		for _, at := range []int{0, 1, 2, 63, 64, 65, 110, 111, 112, 113, 119, 120, 126, 127} {
			out = append(out, 128*piece+at)
		}
	}
	return out
}

// P1.1: sums that FIPS 180-4 and its examples give.
func TestSumOfExamples(t *testing.T) {
	for _, x := range []struct {
		what string
		b    []byte
		want string
	}{
		{"nothing", nil, "cf83e1357eefb8bdf1542850d66d8007d620e4050b5715dc83f4a921d36ce9ce47d0d13c5d85f2b0ff8318d2877eec2f63b931bd47417a81a538327af927da3e"},
		{"an empty list", []byte{}, "cf83e1357eefb8bdf1542850d66d8007d620e4050b5715dc83f4a921d36ce9ce47d0d13c5d85f2b0ff8318d2877eec2f63b931bd47417a81a538327af927da3e"},
		{"abc", []byte("abc"), "ddaf35a193617abacc417349ae20413112e6fa4e89a97ea20a9eeee64b55d39a2192992a274fc1a836ba3c23a3feebbd454d4423643ce80e2a9ac94fa54ca49f"},
		{"two pieces", []byte("abcdefghbcdefghicdefghijdefghijkefghijklfghijklmghijklmnhijklmnoijklmnopjklmnopqklmnopqrlmnopqrsmnopqrstnopqrstu"), "8e959b75dae313da8cf4f72814fc143f8f7779c6eb9f7fa17299aeadb6889018501d289e4900f7e4331b99dec4b5433ac7d329eeb6dd26545e96e55b874be909"},
		{"a million a", bytes.Repeat([]byte("a"), 1000000), "e718483d0ce769644e2e42c7bc15b4638e1f98b13b2044285632a803afa973ebde0ff244877ea60a4cb0432ce577c31beb009c5c2c49aa2e4eadb217ad8cc09b"},
	} {
		want, err := hex.DecodeString(x.want)
		if err != nil {
			t.Fatal(err)
		}
		wantSum(t, x.what, sha.Sum(x.b), want)
	}
}

// P1.1: every length up to some pieces, and each border among them.
func TestSumOfEveryLength(t *testing.T) {
	b := pattern(520)
	for n := range b {
		if got, want := sha.Sum(b[:n]), known(b[:n]); !bytes.Equal(got, want) {
			t.Errorf("%d bytes: got %x, want %x", n, got, want)
		}
	}
}

// P1.1: bytes at the ends of what a byte may be.
func TestSumOfExtremeBytes(t *testing.T) {
	for _, n := range borders() {
		for _, x := range []byte{0x00, 0x01, 0x7f, 0x80, 0xff} {
			b := bytes.Repeat([]byte{x}, n)
			wantSum(t, "repeated", sha.Sum(b), known(b))
		}
	}
}

// P1.1: a number of bits that does not fit 32 bits.
func TestSumOfManyBits(t *testing.T) {
	if testing.Short() {
		t.Skip("takes seconds")
	}
	b := pattern(1 << 20)
	h, other := sha.New(), sha512.New()
	for range 1<<9 + 1 {
		h.Write(b)
		other.Write(b)
	}
	wantSum(t, "513 MiB", h.Sum(), other.Sum(nil))
}

// P1.2: nothing written, or nothing but empty lists.
func TestHashOfNothing(t *testing.T) {
	wantSum(t, "new", sha.New().Sum(), known(nil))
	wantSum(t, "zero", new(sha.Hash).Sum(), known(nil))
	h := sha.New()
	h.Write(nil)
	h.Write([]byte{})
	wantSum(t, "empty lists", h.Sum(), known(nil))
}

// P1.2: what is written comes behind what was written, not elsewhere.
func TestWriteGoesBehind(t *testing.T) {
	h := sha.New()
	h.Write([]byte("ab"))
	h.Write([]byte("c"))
	wantSum(t, "ab, c", h.Sum(), known([]byte("abc")))
	g := sha.New()
	g.Write([]byte("c"))
	g.Write([]byte("ab"))
	wantSum(t, "c, ab", g.Sum(), known([]byte("cab")))
}

// P1.2: a sum asked for between two writes, at each border, changes nothing.
func TestSumBetweenWrites(t *testing.T) {
	b := pattern(700)
	for _, n := range borders() {
		h := sha.New()
		h.Write(b[:n])
		wantSum(t, "first sum", h.Sum(), known(b[:n]))
		wantSum(t, "asked again", h.Sum(), known(b[:n]))
		h.Write(b[n:])
		wantSum(t, "written behind it", h.Sum(), known(b))
	}
}

// P1.2, R3: a nil hash takes nothing and tells nothing.
func TestNilHash(t *testing.T) {
	var none *sha.Hash
	none.Write(nil)
	none.Write([]byte("abc"))
	none.Write(pattern(300))
	if got := none.Sum(); got != nil {
		t.Errorf("got %x", got)
	}
	wantSum(t, "another hash", sha.New().Sum(), known(nil))
}

// P1.2, R2: what is handed in may be changed afterwards, in an open piece and in a full one.
func TestWriteKeepsNothing(t *testing.T) {
	for _, n := range borders() {
		b := pattern(n)
		h := sha.New()
		h.Write(b)
		for i := range b {
			b[i] ^= 0xff
		}
		wantSum(t, "changed afterwards", h.Sum(), known(pattern(n)))
	}
}

// P1.1, P1.2, R2: what is handed in stays as it is, and what lies behind its length is neither read nor written.
func TestArgumentStays(t *testing.T) {
	for _, n := range borders() {
		whole := pattern(n + 256)
		want := known(whole[:n])
		wantSum(t, "Sum", sha.Sum(whole[:n]), want)
		h := sha.New()
		h.Write(whole[:n])
		wantSum(t, "Write", h.Sum(), want)
		if !bytes.Equal(whole, pattern(n+256)) {
			t.Errorf("%d bytes: changed", n)
		}
		for i := n; i < len(whole); i++ {
			whole[i] ^= 0xff
		}
		wantSum(t, "other bytes behind", sha.Sum(whole[:n]), want)
	}
}

// P1.1, P1.2, R2: what is told is the caller's own.
func TestAnswerIsNew(t *testing.T) {
	b := []byte("abc")
	h := sha.New()
	h.Write(b)
	for what, sum := range map[string]func() []byte{
		"hash": h.Sum,
		"Sum":  func() []byte { return sha.Sum(b) },
	} {
		first, second := sum(), sum()
		clear(first[:cap(first)])
		wantSum(t, what+": told before", second, known(b))
		wantSum(t, what+": told afterwards", sum(), known(b))
	}
	h.Write(pattern(200))
	wantSum(t, "written behind it", h.Sum(), known(append([]byte("abc"), pattern(200)...)))
}

// P1.2, R2: a hash's own answer may be written to it.
func TestOwnSumWritten(t *testing.T) {
	h := sha.New()
	var all []byte
	for range 5 {
		s := h.Sum()
		h.Write(s)
		all = append(all, s...)
		wantSum(t, "own sum", h.Sum(), known(all))
	}
}

// P1.2, R6: hashes know nothing of one another, nor of Sum.
func TestHashesApart(t *testing.T) {
	a, b := sha.New(), sha.New()
	var wantA, wantB []byte
	for i := range 20 {
		x, y := pattern(i*17), pattern(i*29+1)
		a.Write(x)
		sha.Sum(y)
		b.Write(y)
		wantA, wantB = append(wantA, x...), append(wantB, y...)
	}
	wantSum(t, "one", a.Sum(), known(wantA))
	wantSum(t, "the other", b.Sum(), known(wantB))
}

// P1.2, R2: a hash that is copied goes its own way, at each border.
func TestCopyApart(t *testing.T) {
	for _, n := range borders() {
		h := sha.New()
		h.Write(pattern(n))
		g := *h
		h.Write(bytes.Repeat([]byte{1}, 200))
		g.Write(bytes.Repeat([]byte{2}, 200))
		wantSum(t, "first", h.Sum(), known(append(pattern(n), bytes.Repeat([]byte{1}, 200)...)))
		wantSum(t, "copy", g.Sum(), known(append(pattern(n), bytes.Repeat([]byte{2}, 200)...)))
	}
}

// P1.3: cut once, anywhere.
func TestCutOnce(t *testing.T) {
	b := pattern(400)
	for _, n := range []int{1, 111, 112, 127, 128, 129, 240, 256, 257, 400} {
		want := known(b[:n])
		for at := 0; at <= n; at++ {
			h := sha.New()
			h.Write(b[:at])
			h.Write(b[at:n])
			if got := h.Sum(); !bytes.Equal(got, want) {
				t.Errorf("%d bytes cut at %d: got %x, want %x", n, at, got, want)
			}
		}
	}
}

// P1.3: cut in many pieces of one length, with nothing and sums between them.
func TestCutInPieces(t *testing.T) {
	b := pattern(1500)
	want := known(b)
	for _, size := range []int{1, 2, 3, 16, 63, 64, 65, 111, 112, 113, 127, 128, 129, 255, 256, 257, 1499, 1500} {
		h, asked := sha.New(), sha.New()
		for rest := b; len(rest) > 0; {
			n := min(size, len(rest))
			h.Write(rest[:n])
			asked.Write(rest[:n])
			asked.Write(nil)
			asked.Sum()
			rest = rest[n:]
		}
		wantSum(t, "pieces", h.Sum(), want)
		wantSum(t, "pieces with sums between", asked.Sum(), want)
	}
}

// P1.3: cut in pieces of lengths that change.
func TestCutInRisingPieces(t *testing.T) {
	for step := 1; step < 40; step++ {
		h := sha.New()
		var all []byte
		for n := 0; len(all) < 2000; n += step {
			h.Write(pattern(n))
			all = append(all, pattern(n)...)
		}
		wantSum(t, "rising pieces", h.Sum(), known(all))
	}
}
