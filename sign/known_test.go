package sign_test

import (
	"bytes"
	"crypto/ed25519"
	"crypto/sha512"
	"encoding/hex"
	"math/big"
	"slices"
	"testing"

	"viaticum/sign"
)

// hexBytes is bytes of base 16.
func hexBytes(t *testing.T, s string) []byte {
	t.Helper()
	b, err := hex.DecodeString(s)
	if err != nil {
		t.Fatal(err)
	}
	return b
}

// l is the order of the base, as DOC.md writes it.
func l() *big.Int {
	more, _ := new(big.Int).SetString("27742317777372353535851937790883648493", 10)
	return more.Add(more, new(big.Int).Lsh(big.NewInt(1), 252))
}

// number is the number of bytes, the lowest first.
func number(b []byte) *big.Int {
	high := bytes.Clone(b)
	slices.Reverse(high)
	return new(big.Int).SetBytes(high)
}

// low is n's 32 bytes, the lowest first.
func low(n *big.Int) []byte {
	b := n.FillBytes(make([]byte, 32))
	slices.Reverse(b)
	return b
}

// joined is all parts, one behind the other, in new memory.
func joined(parts ...[]byte) []byte {
	return slices.Concat(parts...)
}

// halves is what SHA-512 makes of a seed: the number of its key, its bits laid as a key's are, and the prefix.
func halves(seed []byte) (*big.Int, []byte) {
	sum := sha512.Sum512(seed)
	n := number(sum[:32])
	for _, bit := range []int{0, 1, 2, 255} {
		n.SetBit(n, bit, 0)
	}
	return n.SetBit(n, 254, 1), bytes.Clone(sum[32:])
}

// hashed is the number of what SHA-512 makes of all parts, modulo l.
func hashed(parts ...[]byte) *big.Int {
	sum := sha512.Sum512(joined(parts...))
	n := number(sum[:])
	return n.Mod(n, l())
}

// signer is a seed, its public key and its signatures as another program has them.
func signer(seed []byte) ed25519.PrivateKey {
	return ed25519.NewKeyFromSeed(seed)
}

// publicOf is the public key of signer.
func publicOf(seed []byte) []byte {
	return bytes.Clone(signer(seed)[32:])
}

// seeds are n seeds without a pattern, the same each time, and two of one byte alone.
func seeds(n int) [][]byte {
	out := [][]byte{make([]byte, 32), bytes.Repeat([]byte{0xff}, 32)}
	last := sha512.Sum512([]byte("seeds"))
	for range n {
		out = append(out, bytes.Clone(last[:32]))
		last = sha512.Sum512(last[:])
	}
	return out
}

// message is n bytes without a pattern, the same each time.
func message(n int) []byte {
	var out []byte
	last := sha512.Sum512([]byte("message"))
	for len(out) < n {
		out = append(out, last[:]...)
		last = sha512.Sum512(last[:])
	}
	return out[:n:n]
}

// vector is a seed and what must come of it and of a message (RFC 8032, 7.1).
type vector struct{ seed, pub, msg, sig []byte }

// vectors are those of the RFC whose message is short.
func vectors(t *testing.T) []vector {
	t.Helper()
	var out []vector
	for _, x := range [][4]string{
		{
			"9d61b19deffd5a60ba844af492ec2cc44449c5697b326919703bac031cae7f60",
			"d75a980182b10ab7d54bfed3c964073a0ee172f3daa62325af021a68f707511a",
			"",
			"e5564300c360ac729086e2cc806e828a84877f1eb8e5d974d873e065224901555fb8821590a33bacc61e39701cf9b46bd25bf5f0595bbe24655141438e7a100b",
		},
		{
			"4ccd089b28ff96da9db6c346ec114e0f5b8a319f35aba624da8cf6ed4fb8a6fb",
			"3d4017c3e843895a92b70aa74d1b7ebc9c982ccf2ec4968cc0cd55f12af4660c",
			"72",
			"92a009a9f0d4cab8720e820b5f642540a2b27b5416503f8fb3762223ebdb69da085ac1e43e15996e458f3613d0f11d8c387b2eaeb4302aeeb00d291612bb0c00",
		},
		{
			"c5aa8df43f9f837bedb7442f31dcb7b166d38535076f094b85ce3a2e0b4458f7",
			"fc51cd8e6218a1a38da47ed00230f0580816ed13ba3303ac5deb911548908025",
			"af82",
			"6291d657deec24024827e69c3abe01a30ce548a284743a445e3680d7db5ac3ac18ff9b538d16f290ae67f760984dc6594a7c15e9716ed28dc027beceea1ec40a",
		},
		{
			"833fe62409237b9d62ec77587520911e9a759cec1d19755b7da901b96dca3d42",
			"ec172b93ad5e563bf4932c70e1245034c35467ef2efd4d64ebf819683467e2bf",
			"ddaf35a193617abacc417349ae20413112e6fa4e89a97ea20a9eeee64b55d39a2192992a274fc1a836ba3c23a3feebbd454d4423643ce80e2a9ac94fa54ca49f",
			"dc2a4459e7369633a52b1bf277839a00201009a3efbf3ecb69bea2186c26b58909351fc9ac90b3ecfdfbc7c66431e0303dca179c138ac17ad9bef1177331a704",
		},
	} {
		out = append(out, vector{hexBytes(t, x[0]), hexBytes(t, x[1]), hexBytes(t, x[2]), hexBytes(t, x[3])})
	}
	return out
}

// wantYes complains unless Verify tells true.
func wantYes(t *testing.T, what string, pub, msg, sig []byte) {
	t.Helper()
	if !sign.Verify(pub, msg, sig) {
		t.Errorf("%s: not verified: pub %x, sig %x", what, pub, sig)
	}
}

// wantNo complains unless Verify tells false.
func wantNo(t *testing.T, what string, pub, msg, sig []byte) {
	t.Helper()
	if sign.Verify(pub, msg, sig) {
		t.Errorf("%s: verified: pub %x, sig %x", what, pub, sig)
	}
}
