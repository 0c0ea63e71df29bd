package proto_test

import (
	"bytes"
	"encoding/binary"
	"testing"

	"viaticum/api"
	"viaticum/proto"
)

// some is a row of n fields of all sorts, another one for each seed.
func some(seed, n int) []proto.Field {
	var out []proto.Field
	x := uint64(seed)*2862933555777941757 + 3037000493
	next := func(below int) int {
		x = x*6364136223846793005 + 1442695040888963407
		return int((x >> 33) % uint64(below))
	}
	for range n {
		num := next(100) + 1
		if next(2) == 0 {
			out = append(out, number(num, x>>next(64)))
		} else {
			out = append(out, raw(num, pattern(next(2)*next(300))))
		}
	}
	return out
}

// P6.3: Fields of a message's Bytes are what was put.
func TestPutIsRead(t *testing.T) {
	for seed := range 300 {
		fields := some(seed, seed%40)
		wantFields(t, written(fields...), fields...)
	}
	for _, n := range numbers() {
		wantFields(t, written(number(100, n)), number(100, n))
	}
	for _, n := range []int{0, 1, 127, 128, 129, 16383, 16384, api.MaxBytes - 4} {
		wantFields(t, written(raw(1, pattern(n))), raw(1, pattern(n)))
	}
	for num := 1; num <= 100; num++ {
		wantFields(t, written(number(num, 5), raw(num, []byte("ab"))), number(num, 5), raw(num, []byte("ab")))
	}
}

// P6.3: what may not be put is not read either.
func TestNotPutIsNotRead(t *testing.T) {
	m := &proto.Message{}
	m.Int(1, 300)
	m.Int(0, 1)
	m.Raw(101, []byte("ab"))
	m.Raw(2, make([]byte, api.MaxBytes+1))
	m.Raw(2, []byte("ab"))
	wantFields(t, m.Bytes(), number(1, 300), raw(2, []byte("ab")))
}

// P6.3: what a message says of a great one: that Fields will not have it.
func TestPutBeyondSize(t *testing.T) {
	wantErrno(t, written(raw(1, pattern(api.MaxBytes))), api.ErrSize)
	wantErrno(t, written(raw(1, pattern(api.MaxBytes-3))), api.ErrSize)
}

// wantBack wants what is read of b, if it can be read, to be written as b; and it wants another reader's answer.
func wantBack(t *testing.T, b []byte) {
	t.Helper()
	fields, e := proto.Fields(b)
	if want := outcome(b); e != want {
		t.Errorf("%x: got %d, want %d", b, e, want)
	}
	if e == api.OK {
		wantBytes(t, "written again", written(fields...), b)
	} else if len(fields) != 0 {
		t.Errorf("%x: %d and %v", b, e, fields)
	}
}

// outcome is what Fields must answer of b, told by what another program reads.
func outcome(b []byte) api.Errno {
	for len(b) > 0 {
		tag, size, e := taken(b)
		if e != api.OK {
			return e
		}
		b = b[size:]
		if wire := tag & 7; wire != 0 && wire != 2 || tag < 8 || tag >= 808 {
			return api.ErrForm
		}
		n, size, e := taken(b)
		if e != api.OK {
			return e
		}
		b = b[size:]
		if tag&7 == 2 {
			if n > uint64(len(b)) {
				return api.ErrShort
			}
			b = b[n:]
		}
	}
	return api.OK
}

// taken is a varint by encoding/binary, which alone does not mind needless bytes.
func taken(b []byte) (uint64, int, api.Errno) {
	if len(b) >= 10 && b[9] > 1 && binary.LittleEndian.Uint64(b)&0x8080808080808080 == 0x8080808080808080 && b[8] >= 0x80 {
		return 0, 0, api.ErrForm
	}
	n, size := binary.Uvarint(b)
	switch {
	case size == 0:
		return 0, 0, api.ErrShort
	case size < 0 || size != len(binary.AppendUvarint(nil, n)):
		return 0, 0, api.ErrForm
	}
	return n, size, api.OK
}

// P6.2, P6.3: all rows of up to three bytes, and of up to six of some bytes.
func TestAllShortRows(t *testing.T) {
	for n := range 1 << 16 {
		wantBack(t, []byte{byte(n), byte(n >> 8)})
		wantBack(t, []byte{byte(n), byte(n >> 8), 1})
		wantBack(t, []byte{byte(n), 1, byte(n >> 8)})
	}
	for n := range 256 {
		wantBack(t, []byte{byte(n)})
	}
	of := []byte{0x00, 0x01, 0x02, 0x08, 0x0a, 0x80, 0x86}
	for length := range 7 {
		allRows(length, of, func(b []byte) { wantBack(t, b) })
	}
}

// allRows hands every row of that length of these bytes to take.
func allRows(length int, of []byte, take func([]byte)) {
	row := make([]byte, length)
	var fill func(int)
	fill = func(at int) {
		if at == length {
			take(bytes.Clone(row))
			return
		}
		for _, c := range of {
			row[at] = c
			fill(at + 1)
		}
	}
	fill(0)
}

// P6.2, P6.3: rows of fields with one byte changed, left out or put in, and long varints of few bytes.
func TestChangedRows(t *testing.T) {
	for seed := range 12 {
		b := written(some(seed, 4)...)
		for i := range b {
			for _, c := range []byte{0x00, 0x01, 0x02, 0x08, 0x7f, 0x80, 0xff} {
				other := bytes.Clone(b)
				other[i] = c
				wantBack(t, other)
				wantBack(t, append(append(bytes.Clone(b[:i]), c), b[i:]...))
			}
			wantBack(t, append(bytes.Clone(b[:i]), b[i+1:]...))
			wantBack(t, b[:i])
		}
	}
	allRows(4, []byte{0x00, 0x01, 0x02, 0x7f, 0x80, 0x81, 0xff}, func(tail []byte) {
		for n := 6; n <= 10; n++ {
			for _, tag := range []byte{0x08, 0x0a, 0x81} {
				wantBack(t, append(append([]byte{tag}, bytes.Repeat([]byte{0x80}, n)...), tail...))
			}
		}
	})
}

// FuzzFields: whatever bytes come, an error that outcome names, or fields that are written as these bytes.
func FuzzFields(f *testing.F) {
	for seed := range 5 {
		f.Add(written(some(seed, seed)...))
	}
	f.Fuzz(func(t *testing.T, b []byte) {
		if len(b) <= api.MaxBytes {
			wantBack(t, b)
		}
	})
}
