package proto_test

import (
	"bytes"
	"math"
	"testing"

	"viaticum/api"
	"viaticum/proto"
)

// P6.2: fields in the order in which they stand.
func TestFieldsInOrder(t *testing.T) {
	wantFields(t, nil)
	wantFields(t, []byte{})
	wantFields(t, hexBytes(t, "08ac02"), number(1, 300))
	wantFields(t, hexBytes(t, "0a00"), raw(1, nil))
	wantFields(t, hexBytes(t, "0800"), number(1, 0))
	wantFields(t, hexBytes(t, "12026162"), raw(2, []byte("ab")))
	wantFields(t, hexBytes(t, "1801"+"0a0162"+"0802"+"0a0161"+"1801"+"a20600"+"a00605"),
		number(3, 1), raw(1, []byte("b")), number(1, 2), raw(1, []byte("a")), number(3, 1), raw(100, nil), number(100, 5))
	wantFields(t, hexBytes(t, "0a0408ac0208"), raw(1, hexBytes(t, "08ac0208")))
	wantFields(t, hexBytes(t, "0a01ff"+"0a0180"+"0a0100"), raw(1, []byte{0xff}), raw(1, []byte{0x80}), raw(1, []byte{0}))
}

// P6.2: MaxBytes bytes, and more; that there are too many is told whatever they are.
func TestFieldsOfSizes(t *testing.T) {
	full := pattern(api.MaxBytes - 4)
	whole := append(hexBytes(t, "0afcff03"), full...)
	wantFields(t, whole, raw(1, full))
	wantErrno(t, append(bytes.Clone(whole), 8), api.ErrSize)
	wantErrno(t, append(bytes.Clone(whole), 8, 1), api.ErrSize)
	many := bytes.Repeat([]byte{8, 1}, api.MaxBytes/2)
	if got, e := proto.Fields(many); e != api.OK || len(got) != api.MaxBytes/2 {
		t.Errorf("many: %d fields and %d", len(got), e)
	}
	wantErrno(t, append(many, 8, 1), api.ErrSize)
	for _, c := range []byte{0x00, 0x08, 0x09, 0x80, 0xff} {
		wantErrno(t, bytes.Repeat([]byte{c}, api.MaxBytes+1), api.ErrSize)
		wantErrno(t, bytes.Repeat([]byte{c}, 1<<20), api.ErrSize)
	}
	wantErrno(t, bytes.Repeat([]byte{0}, api.MaxBytes), api.ErrForm)
	wantErrno(t, bytes.Repeat([]byte{8}, api.MaxBytes-1), api.ErrShort)
}

// P6.2: a varint, or bytes, cut short.
func TestShort(t *testing.T) {
	for _, s := range []string{
		"08", "80", "88", "ff", "a0", "0a", "a006", "a206", // no number, or a tag that is cut
		"0880", "08ff", "08ffff", "0880808080808080", "08ffffffffffffffff", "08ffffffffffffffffff",
		"0a80", "0affffffffffffffffff",
		"0a01", "0a02", "0a0261", "0a7f", "0a800161",
		"ffffffffffffffffff",                            // a tag of nine bytes that is cut
		"0801" + "08", "0a00" + "0a01", "0801" + "0a80", // the second field
	} {
		wantErrno(t, hexBytes(t, s), api.ErrShort)
	}
}

// P6.2: a count of bytes that is more than there are, far beyond what an int holds too.
func TestShortOfGreatCounts(t *testing.T) {
	for _, n := range []uint64{
		3, 127, 128, api.MaxBytes, api.MaxBytes + 1, math.MaxInt32, math.MaxInt32 + 1, math.MaxUint32, 1 << 32, 1<<32 + 2,
		math.MaxInt64, 1 << 63, 1<<63 + 2, math.MaxUint64 - 1, math.MaxUint64,
	} {
		wantErrno(t, append(append([]byte{0x0a}, proto.Varint(n)...), 'a', 'b'), api.ErrShort)
	}
}

// P6.2: all cuts of bytes that are fields: short within one, and fewer of them between two.
func TestCuts(t *testing.T) {
	parts := [][]byte{
		hexBytes(t, "08ac02"), hexBytes(t, "a206026162"), hexBytes(t, "1000"), hexBytes(t, "0a00"),
		hexBytes(t, "a006ffffffffffffffffff01"), append(hexBytes(t, "0a8001"), pattern(128)...),
	}
	all := bytes.Join(parts, nil)
	ends := map[int]int{0: 0}
	at := 0
	for i, p := range parts {
		at += len(p)
		ends[at] = i + 1
	}
	for n := 0; n <= len(all); n++ {
		fields, e := proto.Fields(all[:n])
		if want, whole := ends[n]; whole && (e != api.OK || len(fields) != want) {
			t.Errorf("cut at %d: %d fields and %d", n, len(fields), e)
		} else if !whole && (e != api.ErrShort || len(fields) != 0) {
			t.Errorf("cut at %d: %d fields and %d", n, len(fields), e)
		}
	}
}

// P6.2: a varint of ten bytes, and its tenth byte.
func TestTenBytes(t *testing.T) {
	nine, ones := "808080808080808080", "ffffffffffffffffff"
	wantFields(t, hexBytes(t, "08"+nine+"01"), number(1, 1<<63))
	wantFields(t, hexBytes(t, "08"+ones+"01"), number(1, math.MaxUint64))
	wantFields(t, hexBytes(t, "08"+ones[2:]+"7f"), number(1, math.MaxInt64))
	for _, front := range []string{nine, ones} {
		for _, tenth := range []string{"00", "02", "03", "7f", "80", "81", "82", "ff"} {
			for _, behind := range []string{"", "00", "01", "0000", "0801", "ffff"} {
				wantErrno(t, hexBytes(t, "08"+front+tenth+behind), api.ErrForm)
				wantErrno(t, hexBytes(t, "0a"+front+tenth+behind), api.ErrForm)
				wantErrno(t, hexBytes(t, front+tenth+behind), api.ErrForm)
			}
		}
	}
}

// P6.2: a varint of eleven bytes and more.
func TestElevenBytes(t *testing.T) {
	for _, c := range []byte{0x80, 0x81, 0xff} {
		for n := 10; n < 40; n++ {
			long := bytes.Repeat([]byte{c}, n)
			for _, last := range []byte{0, 1, 0x7f} {
				wantErrno(t, append(append([]byte{8}, long...), last), api.ErrForm)
				wantErrno(t, append(append([]byte{0x0a}, long...), last), api.ErrForm)
				wantErrno(t, append(bytes.Clone(long), last), api.ErrForm)
			}
			wantErrno(t, append([]byte{8}, long...), api.ErrForm)
		}
	}
}

// P6.2: a needless byte, in a tag, a number, a count; but a first byte of 0 is none.
func TestNeedless(t *testing.T) {
	for _, s := range []string{
		"0880" + "00", "0881" + "00", "08ff" + "00", "088080" + "00", "08ffffffffffffffff" + "00",
		"88" + "00" + "05", "8a" + "00" + "00", "a086" + "00" + "05",
		"0a80" + "00", "0a82" + "00" + "6162",
		"8000", "0801" + "0880" + "00",
	} {
		wantErrno(t, hexBytes(t, s), api.ErrForm)
	}
	wantFields(t, hexBytes(t, "0800"), number(1, 0))
	wantFields(t, hexBytes(t, "0a00"), raw(1, nil))
	wantFields(t, hexBytes(t, "08808001"), number(1, 1<<14))
	wantFields(t, hexBytes(t, "0800"+"0800"), number(1, 0), number(1, 0))
}

// P6.2: each wire type, at each num, told as soon as the tag is there.
func TestWireTypesAndNums(t *testing.T) {
	for tag := range uint64(1000) {
		num, wire := int(tag/8), tag%8
		front := proto.Varint(tag)
		behind := append(bytes.Clone(front), 1, 'x')
		switch {
		case num < 1 || num > 100 || wire != 0 && wire != 2:
			wantErrno(t, front, api.ErrForm)
			wantErrno(t, behind, api.ErrForm)
		case wire == 0:
			wantErrno(t, front, api.ErrShort)
			wantFields(t, behind[:len(behind)-1], number(num, 1))
		default:
			wantErrno(t, front, api.ErrShort)
			wantFields(t, behind, raw(num, []byte("x")))
		}
	}
}

// P6.2: a num that is beyond what narrower numbers hold is not taken for another one.
func TestGreatNums(t *testing.T) {
	for _, num := range []uint64{101, 128, 256, 257, 1<<8 + 100, 1<<16 + 1, 1<<29 - 1, 1<<31 + 1, 1 << 32, 1<<32 + 1, 1<<60 + 1, 1<<61 - 1} {
		for _, wire := range []uint64{0, 2} {
			front := proto.Varint(8*num + wire)
			wantErrno(t, front, api.ErrForm)
			wantErrno(t, append(front, 0), api.ErrForm)
		}
	}
}

// P6.2, R4: of two errors the one that is met first.
func TestFirstError(t *testing.T) {
	for _, x := range []struct {
		s    string
		want api.Errno
	}{
		{"09" + "08", api.ErrForm},          // a wire type, ahead of a number cut short
		{"0b", api.ErrForm},                 // a wire type, with nothing behind it
		{"00", api.ErrForm},                 // num 0, likewise
		{"02" + "05", api.ErrForm},          // num 0, ahead of bytes cut short
		{"a806", api.ErrForm},               // num 101, ahead of a number cut short
		{"08" + "80", api.ErrShort},         // a number cut short, not a needless byte
		{"0a05" + "0b", api.ErrShort},       // bytes cut short, whatever is among them
		{"0a05" + "000000", api.ErrShort},   //
		{"0a8000" + "0b", api.ErrForm},      // a needless byte, ahead of bytes cut short
		{"0801" + "0b" + "08", api.ErrForm}, // the second field, ahead of the third
		{"0801" + "0a02" + "0b", api.ErrShort},
		{"0801" + "0a01" + "0b" + "0b", api.ErrForm},
		{"8900", api.ErrForm},        // a needless byte, and a wire type
		{"89", api.ErrShort},         // a tag cut short, whatever its wire type
		{"80", api.ErrShort},         // a tag cut short, whatever its num
		{"ffffffff", api.ErrShort},   //
		{"0b" + "8000", api.ErrForm}, //
		{"0affffffffffffffffff02", api.ErrForm},
		{"0affffffffffffffffff01", api.ErrShort},
	} {
		wantErrno(t, hexBytes(t, x.s), x.want)
	}
}

// P6.2, R2: what is handed in stays as it is, and what lies behind its length is neither read nor written.
func TestFieldsArgumentStays(t *testing.T) {
	whole := hexBytes(t, "08ac02"+"12026162"+"0801")
	for n := 0; n <= len(whole); n++ {
		b := bytes.Clone(whole)
		got, e := proto.Fields(b[:n])
		wantBytes(t, "handed in", b, whole)
		alone, want := proto.Fields(bytes.Clone(whole[:n:n]))
		if e != want || len(got) != len(alone) {
			t.Errorf("%d bytes: %d fields and %d, alone %d and %d", n, len(got), e, len(alone), want)
		}
	}
}

// P6.2, R2: the bytes of a field are the caller's own, apart from what was handed in and from one another's.
func TestFieldsAreNew(t *testing.T) {
	b := hexBytes(t, "0a03616263"+"0a03616263"+"0a0161"+"0a00"+"0801")
	first, _ := proto.Fields(b)
	second, _ := proto.Fields(b)
	spoil(b)
	if len(first) != 5 || len(second) != 5 {
		t.Fatalf("%d and %d fields", len(first), len(second))
	}
	for i, want := range []string{"abc", "abc", "a", "", ""} {
		wantBytes(t, "handed in, then changed", first[i].B, []byte(want))
		spoil(first[i].B)
		wantBytes(t, "told at the same time", second[i].B, []byte(want))
	}
	clear(first)
	if !same(second[4], number(1, 1)) {
		t.Errorf("got %v", second[4])
	}
}

// P6.2: a number has no bytes beside it, and bytes no number.
func TestNothingBeside(t *testing.T) {
	got, e := proto.Fields(hexBytes(t, "0807"+"120161"+"1809"+"2200"))
	if e != api.OK || len(got) != 4 {
		t.Fatalf("%v, %d", got, e)
	}
	for i, f := range got {
		if f.Num != i+1 || f.Whole != (i%2 == 1) || !f.Whole && f.B != nil || f.Whole && f.N != 0 {
			t.Errorf("field %d: %v", i, f)
		}
	}
}
