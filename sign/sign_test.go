package sign_test

import (
	"bytes"
	"crypto/ed25519"
	"encoding/hex"
	"math/big"
	"strings"
	"testing"

	"viaticum/sign"
)

// P5.1, P5.2: what the chapter shows.
func TestExample(t *testing.T) {
	seed := hexBytes(t, "9d61b19deffd5a60ba844af492ec2cc44449c5697b326919703bac031cae7f60")
	if got := hex.EncodeToString(sign.Public(seed)); !strings.HasPrefix(got, "d75a980182b10ab7") || len(got) != 64 {
		t.Errorf("Public: %s", got)
	}
	for _, nothing := range [][]byte{nil, {}} {
		if got := hex.EncodeToString(sign.Sign(seed, nothing)); !strings.HasPrefix(got, "e5564300c360ac72") || len(got) != 128 {
			t.Errorf("Sign: %s", got)
		}
	}
}

// P5.1, P5.2, P5.3: what the RFC shows.
func TestVectors(t *testing.T) {
	for i, x := range vectors(t) {
		if got := sign.Public(x.seed); !bytes.Equal(got, x.pub) {
			t.Errorf("%d: Public: %x", i, got)
		}
		if got := sign.Sign(x.seed, x.msg); !bytes.Equal(got, x.sig) {
			t.Errorf("%d: Sign: %x", i, got)
		}
		wantYes(t, "of the RFC", x.pub, x.msg, x.sig)
	}
}

// P5.1: the same as of another program.
func TestPublic(t *testing.T) {
	for _, seed := range seeds(20) {
		if got := sign.Public(seed); !bytes.Equal(got, publicOf(seed)) {
			t.Errorf("%x: got %x, want %x", seed, got, publicOf(seed))
		}
	}
}

// P5.2: the same as of another program, of messages that end in all places of a piece of SHA-512.
func TestSign(t *testing.T) {
	for i, seed := range seeds(4) {
		for _, n := range []int{0, 1, 31, 32, 47, 48, 63, 64, 65, 79, 80, 95, 96, 111, 112, 127, 128, 129, 1023, 5000} {
			msg := message(n + i)
			want := ed25519.Sign(signer(seed), msg)
			if got := sign.Sign(seed, msg); !bytes.Equal(got, want) {
				t.Errorf("%x, %d bytes: got %x, want %x", seed, len(msg), got, want)
			}
		}
	}
}

// P5.2: R's number is of the seed's other half and the message alone, and S is r + h a modulo l.
func TestSignByItsParts(t *testing.T) {
	for i, seed := range seeds(4) {
		msg := message(40 * i)
		sig := sign.Sign(seed, msg)
		if len(sig) != 64 {
			t.Fatalf("%x: %d bytes", seed, len(sig))
		}
		a, prefix := halves(seed)
		r, h := hashed(prefix, msg), hashed(sig[:32], sign.Public(seed), msg)
		s := new(big.Int).Mul(h, a)
		s.Add(s, r).Mod(s, l())
		if !bytes.Equal(sig[32:], low(s)) {
			t.Errorf("%x: S is %x, want %x", seed, sig[32:], low(s))
		}
	}
}

// P5.1, P5.2: nothing of a seed that has not 32 bytes.
func TestSeedOfLengths(t *testing.T) {
	for n := range 140 {
		if n == 32 {
			continue
		}
		for _, seed := range [][]byte{make([]byte, n), message(n)} {
			if got := sign.Public(seed); len(got) != 0 {
				t.Errorf("Public of %d bytes: %x", n, got)
			}
			for _, msg := range [][]byte{nil, message(32)} {
				if got := sign.Sign(seed, msg); len(got) != 0 {
					t.Errorf("Sign by %d bytes: %x", n, got)
				}
			}
		}
	}
	if got := sign.Public(nil); len(got) != 0 {
		t.Errorf("Public of nothing: %x", got)
	}
	if got := sign.Sign(nil, nil); len(got) != 0 {
		t.Errorf("Sign by nothing: %x", got)
	}
}

// P5.4: what is signed verifies, by its own key, of its own message.
func TestSignedVerifies(t *testing.T) {
	for i, seed := range seeds(8) {
		for _, n := range []int{0, 1, 64, 200} {
			msg := message(n + 7*i)
			wantYes(t, "signed", sign.Public(seed), msg, sign.Sign(seed, msg))
		}
	}
}

// P5.4: however long it is.
func TestSignedVerifiesLong(t *testing.T) {
	if testing.Short() {
		t.Skip("takes seconds")
	}
	seed, msg := seeds(1)[2], message(1<<22+3)
	sig := sign.Sign(seed, msg)
	if !bytes.Equal(sig, ed25519.Sign(signer(seed), msg)) {
		t.Error("not what another program tells")
	}
	wantYes(t, "long", sign.Public(seed), msg, sig)
	msg[len(msg)-1] ^= 1
	wantNo(t, "long, changed at the end", sign.Public(seed), msg, sig)
}

// P5.4: so does what another program signed.
func TestOthersVerify(t *testing.T) {
	for i, seed := range seeds(8) {
		msg := message(33 * i)
		wantYes(t, "signed by another program", publicOf(seed), msg, ed25519.Sign(signer(seed), msg))
	}
}
