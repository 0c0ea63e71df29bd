package sign_test

import (
	"bytes"
	"crypto/ed25519"
	"math/big"
	"strings"
	"testing"

	"viaticum/point"
	"viaticum/sign"
)

// signed is a seed's public key, a message and what signs it.
func signed() (pub, msg, sig []byte) {
	seed := seeds(1)[2]
	msg = message(50)
	return publicOf(seed), msg, ed25519.Sign(signer(seed), msg)
}

// withS is sig with another S.
func withS(sig []byte, s *big.Int) []byte {
	return joined(sig[:32], low(s))
}

// P5.3: a pub of another length.
func TestPubOfLengths(t *testing.T) {
	pub, msg, sig := signed()
	wantYes(t, "as it is", pub, msg, sig)
	wantNo(t, "nil", nil, msg, sig)
	for n := range 100 {
		if n != 32 {
			wantNo(t, "pub cut or filled", joined(pub, make([]byte, 70))[:n], msg, sig)
			wantNo(t, "pub twice", bytes.Repeat(pub, 4)[:n], msg, sig)
		}
	}
}

// P5.3: a sig of another length.
func TestSigOfLengths(t *testing.T) {
	pub, msg, sig := signed()
	wantNo(t, "nil", pub, msg, nil)
	for n := range 140 {
		if n != 64 {
			wantNo(t, "sig cut or filled", pub, msg, joined(sig, make([]byte, 80))[:n])
			wantNo(t, "sig twice", pub, msg, bytes.Repeat(sig, 3)[:n])
		}
	}
}

// P5.3: a pub that is no point's, whatever stands in sig.
func TestPubOfNoPoint(t *testing.T) {
	_, msg, sig := signed()
	none := joined([]byte{1}, make([]byte, 63)) // R of (0, 1), and S of 0
	noughts := strings.Repeat("00", 30)
	fs := strings.Repeat("ff", 30)
	for _, s := range []string{
		"02" + noughts + "00", // no x at this y
		"02" + noughts + "80",
		"01" + noughts + "80", // x is 0, and the bit is set
		"ee" + fs + "7f",      // y of p + 1: a second way to write (0, 1)
		"ee" + fs + "ff",
		"ed" + fs + "7f", // y of p
		"ed" + fs + "ff",
		"ec" + fs + "ff", // (0, -1), with the bit
		"ff" + fs + "ff",
	} {
		pub := hexBytes(t, s)
		if _, ok := point.From(pub); ok {
			t.Errorf("%s is a point's", s)
		}
		wantNo(t, "no point", pub, msg, sig)
		wantNo(t, "no point, and R of zero", pub, msg, none)
		wantNo(t, "no point, and R of itself", pub, msg, joined(pub, make([]byte, 32)))
	}
}

// P5.3: S of l and more, though it is the same modulo l.
func TestGreatS(t *testing.T) {
	pub, msg, sig := signed()
	s := number(sig[32:])
	for {
		s.Add(s, l())
		if s.BitLen() > 256 {
			break
		}
		wantNo(t, "S and l", pub, msg, withS(sig, s))
	}
}

// P5.3: an S of 0, where 0 fits, and what is the same modulo l; and those about them.
func TestSOfTheOrder(t *testing.T) {
	zero := joined([]byte{1}, make([]byte, 31))
	msg := message(3)
	wantYes(t, "S of 0", zero, msg, withS(zero, big.NewInt(0)))
	for times := range int64(15) {
		n := new(big.Int).Mul(l(), big.NewInt(times+1))
		wantNo(t, "S of l, and as often", zero, msg, withS(zero, n))
	}
	// By this key R is S times the base and nothing else: of the greatest S that may be, the base's Neg.
	least := point.Base().Neg().Bytes()
	wantYes(t, "S of l - 1", zero, msg, withS(least, new(big.Int).Sub(l(), big.NewInt(1))))
	base := point.Base().Bytes()
	wantYes(t, "S of 1", zero, msg, withS(base, big.NewInt(1)))
	wantNo(t, "S of l + 1", zero, msg, withS(base, new(big.Int).Add(l(), big.NewInt(1))))
	wantNo(t, "S of 2", zero, msg, withS(base, big.NewInt(2)))
	wantNo(t, "S of 2^256 - 1", zero, msg, joined(base, bytes.Repeat([]byte{0xff}, 32)))
}

// P5.3: each bit of R, of S, of pub and of the message counts.
func TestEachBit(t *testing.T) {
	pub, msg, sig := signed()
	for what, b := range map[string][]byte{"sig": sig, "pub": pub, "msg": msg[:8]} {
		for i := range 8 * len(b) {
			b[i/8] ^= 1 << (i % 8)
			wantNo(t, what+" with one bit changed", pub, msg, sig)
			b[i/8] ^= 1 << (i % 8)
		}
	}
	wantYes(t, "as it was", pub, msg, sig)
}

// P5.3: another message, another key, the halves of others.
func TestOthers(t *testing.T) {
	pub, msg, sig := signed()
	wantNo(t, "no message", pub, nil, sig)
	wantNo(t, "cut", pub, msg[:len(msg)-1], sig)
	wantNo(t, "cut ahead", pub, msg[1:], sig)
	wantNo(t, "a byte behind", pub, joined(msg, []byte{0}), sig)
	wantNo(t, "a byte ahead", pub, joined([]byte{0}, msg), sig)
	seed := seeds(2)[3]
	other := sign.Sign(seed, msg)
	wantNo(t, "another key", publicOf(seed), msg, sig)
	wantNo(t, "by another key", pub, msg, other)
	wantNo(t, "another R", pub, msg, joined(other[:32], sig[32:]))
	wantNo(t, "another S", pub, msg, joined(sig[:32], other[32:]))
	wantNo(t, "S ahead of R", pub, msg, joined(sig[32:], sig[:32]))
	wantNo(t, "noughts", pub, msg, make([]byte, 64))
	wantNo(t, "all", nil, nil, nil)
}

// P5.3: no message at all is one too, nil or not.
func TestNoMessage(t *testing.T) {
	for _, seed := range seeds(2) {
		pub, sig := sign.Public(seed), sign.Sign(seed, nil)
		wantYes(t, "nil", pub, nil, sig)
		wantYes(t, "empty", pub, []byte{}, sig)
		wantNo(t, "a nought", pub, []byte{0}, sig)
	}
}

// eighth is a point of order eight.
func eighth(t *testing.T) point.Point {
	t.Helper()
	p, ok := point.From(hexBytes(t, "c7176a703d4dd84fba3c0b760d10670f2a2053fa2c39ccc64ec7fd7792ac037a"))
	if !ok || !p.Small() || p.Mul([]byte{4}).Same(point.Zero()) {
		t.Fatal("not of order eight")
	}
	return p
}

// P5.3: a key of small order is as any, and R is held against the equation itself, not against eight times it.
func TestSmallKeys(t *testing.T) {
	for i := range byte(8) {
		key := eighth(t).Mul([]byte{i})
		pub := key.Bytes()
		for j := range byte(8) {
			sig := joined(eighth(t).Mul([]byte{j}).Bytes(), make([]byte, 32))
			msg := []byte{i, j}
			fits := bytes.Equal(key.Neg().Mul(low(hashed(sig[:32], pub, msg))).Bytes(), sig[:32])
			if got := sign.Verify(pub, msg, sig); got != fits {
				t.Errorf("%d, %d: got %v", i, j, got)
			}
		}
	}
}

// P5.3: a key of which a part is of small order: only where that part falls away.
func TestMixedKey(t *testing.T) {
	a, prefix := halves(seeds(1)[2])
	pub := point.Base().Mul(low(a)).Add(eighth(t)).Bytes()
	yes := 0
	for i := range byte(40) {
		msg := []byte{i}
		r := hashed(prefix, msg)
		first := point.Base().Mul(low(r)).Bytes()
		h := hashed(first, pub, msg)
		s := new(big.Int).Mul(h, a)
		sig := withS(first, s.Add(s, r).Mod(s, l()))
		fits := h.Bit(0)+h.Bit(1)+h.Bit(2) == 0
		if fits {
			yes++
		}
		if got := sign.Verify(pub, msg, sig); got != fits || got != ed25519.Verify(pub, msg, sig) {
			t.Errorf("%d: got %v", i, got)
		}
	}
	if yes == 0 || yes == 40 {
		t.Errorf("%d of 40 fit: nothing was tried", yes)
	}
}

// P5.3: an R to which a point of small order was added, though h goes by that R.
func TestMixedR(t *testing.T) {
	seed, msg := seeds(1)[2], message(9)
	a, prefix := halves(seed)
	pub, r := publicOf(seed), hashed(prefix, msg)
	for i := range byte(8) {
		first := point.Base().Mul(low(r)).Add(eighth(t).Mul([]byte{i})).Bytes()
		s := new(big.Int).Mul(hashed(first, pub, msg), a)
		sig := withS(first, s.Add(s, r).Mod(s, l()))
		if got := sign.Verify(pub, msg, sig); got != (i == 0) {
			t.Errorf("%d: got %v", i, got)
		}
	}
}

// P5.3: an R that is another way to write the point.
func TestROfOtherBytes(t *testing.T) {
	zero := joined([]byte{1}, make([]byte, 31))
	wantYes(t, "R of zero", zero, nil, joined(zero, make([]byte, 32)))
	for _, s := range []string{
		"01" + strings.Repeat("00", 30) + "80",
		"ee" + strings.Repeat("ff", 30) + "7f",
		"ee" + strings.Repeat("ff", 30) + "ff",
		strings.Repeat("00", 32),
	} {
		wantNo(t, "R in other bytes", zero, nil, joined(hexBytes(t, s), make([]byte, 32)))
	}
}
