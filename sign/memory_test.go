package sign_test

import (
	"bytes"
	"testing"

	"viaticum/sign"
)

// laid is b in the middle of other bytes: what is told of it must not hang on them, nor change them.
func laid(b []byte) (whole, inner []byte) {
	whole = joined([]byte{0x5a}, b, bytes.Repeat([]byte{0xa5}, 200))
	return whole, whole[1 : 1+len(b)]
}

// R2: what is handed in stays, and so does what lies behind it.
func TestGivenStays(t *testing.T) {
	for i, x := range vectors(t) {
		seedAll, seed := laid(x.seed)
		pubAll, pub := laid(x.pub)
		msgAll, msg := laid(x.msg)
		sigAll, sig := laid(x.sig)
		if got := sign.Public(seed); !bytes.Equal(got, x.pub) {
			t.Errorf("%d: Public: %x", i, got)
		}
		if got := sign.Sign(seed, msg); !bytes.Equal(got, x.sig) {
			t.Errorf("%d: Sign: %x", i, got)
		}
		wantYes(t, "laid among others", pub, msg, sig)
		for what, pair := range map[string][2][]byte{"seed": {seedAll, x.seed}, "pub": {pubAll, x.pub}, "msg": {msgAll, x.msg}, "sig": {sigAll, x.sig}} {
			if again, _ := laid(pair[1]); !bytes.Equal(pair[0], again) {
				t.Errorf("%d: %s was changed", i, what)
			}
		}
	}
}

// R2: one memory handed in for all of them.
func TestGivenShared(t *testing.T) {
	seed := seeds(1)[2]
	sig := sign.Sign(seed, seed)
	pub := sign.Public(seed)
	wantYes(t, "the seed signed by itself", pub, seed, sig)
	signedPub := sign.Sign(seed, pub)
	all := joined(pub, signedPub)
	wantYes(t, "pub signed, in one memory", all[:32], all[:32], all[32:])
}

// R2: what is told is new each time, behind its length too.
func TestToldIsNew(t *testing.T) {
	x := vectors(t)[2]
	for what, call := range map[string]func() []byte{
		"Public": func() []byte { return sign.Public(x.seed) },
		"Sign":   func() []byte { return sign.Sign(x.seed, x.msg) },
	} {
		first, second := call(), call()
		right := bytes.Clone(second)
		first = first[:cap(first)]
		for i := range first {
			first[i] ^= 0xff
		}
		if !bytes.Equal(second, right) || !bytes.Equal(call(), right) {
			t.Errorf("%s: what was told hangs on others", what)
		}
	}
	if again := vectors(t)[2]; !bytes.Equal(x.seed, again.seed) || !bytes.Equal(x.msg, again.msg) {
		t.Error("what was told hangs on what was given")
	}
}

// R2: nothing is kept of what was handed in.
func TestNothingKept(t *testing.T) {
	x := vectors(t)[2]
	pub, sig := sign.Public(x.seed), sign.Sign(x.seed, x.msg)
	clear(x.seed)
	clear(x.msg)
	again := vectors(t)[2]
	if !bytes.Equal(pub, again.pub) || !bytes.Equal(sig, again.sig) {
		t.Error("what was given is kept")
	}
}
