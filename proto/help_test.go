package proto_test

import (
	"bytes"
	"encoding/hex"
	"testing"

	"viaticum/api"
	"viaticum/proto"
)

// hexBytes is bytes of base 16.
func hexBytes(t *testing.T, s string) []byte {
	t.Helper()
	b, err := hex.DecodeString(s)
	if err != nil {
		t.Fatal(err)
	}
	return b
}

// pattern is n bytes of which few neighbours are alike.
func pattern(n int) []byte {
	b := make([]byte, n)
	for i := range b {
		b[i] = byte(i*i + i/256 + 3)
	}
	return b
}

// spoil changes all of b, and what lies behind it.
func spoil(b []byte) {
	b = b[:cap(b)]
	for i := range b {
		b[i] ^= 0xff
	}
}

func wantBytes(t *testing.T, what string, got, want []byte) {
	t.Helper()
	if !bytes.Equal(got, want) {
		t.Errorf("%s: got %s, want %s", what, shown(got), shown(want))
	}
}

// shown is b, or its beginning.
func shown(b []byte) string {
	if len(b) > 40 {
		return hex.EncodeToString(b[:40]) + ".."
	}
	return hex.EncodeToString(b)
}

// number and raw are fields as Fields tells them.
func number(num int, n uint64) proto.Field {
	return proto.Field{Num: num, N: n}
}

func raw(num int, b []byte) proto.Field {
	return proto.Field{Num: num, Whole: true, B: b}
}

// same says whether two fields are alike in all; nil and empty bytes are one.
func same(a, b proto.Field) bool {
	return a.Num == b.Num && a.Whole == b.Whole && a.N == b.N && bytes.Equal(a.B, b.B)
}

func wantFields(t *testing.T, b []byte, want ...proto.Field) {
	t.Helper()
	got, e := proto.Fields(b)
	if e != api.OK || len(got) != len(want) {
		t.Errorf("%s: got %d fields and %d, want %d", shown(b), len(got), e, len(want))
		return
	}
	for i := range want {
		if !same(got[i], want[i]) {
			t.Errorf("%s: field %d: got %v, want %v", shown(b), i, got[i], want[i])
		}
	}
}

// wantErrno wants an error, and nothing beside it.
func wantErrno(t *testing.T, b []byte, want api.Errno) {
	t.Helper()
	if got, e := proto.Fields(b); e != want || len(got) != 0 {
		t.Errorf("%s: got %d and %v, want %d", shown(b), e, got, want)
	}
}

// written is what a message makes of fields.
func written(fields ...proto.Field) []byte {
	m := &proto.Message{}
	for _, f := range fields {
		put(m, f)
	}
	return m.Bytes()
}

func put(m *proto.Message, f proto.Field) {
	if f.Whole {
		m.Raw(f.Num, f.B)
	} else {
		m.Int(f.Num, f.N)
	}
}
