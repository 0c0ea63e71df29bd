package proto_test

import (
	"bytes"
	"math"
	"testing"

	"viaticum/api"
	"viaticum/proto"
)

// P6.1: the chapter's example.
func TestExample(t *testing.T) {
	m := &proto.Message{}
	m.Int(1, 300)
	wantBytes(t, "Int(1, 300)", m.Bytes(), hexBytes(t, "08ac02"))
}

// P6.1: a message that is zero, however it was made.
func TestZeroMessage(t *testing.T) {
	var m proto.Message
	for what, b := range map[string][]byte{
		"declared": m.Bytes(),
		"new":      new(proto.Message).Bytes(),
		"literal":  (&proto.Message{}).Bytes(),
	} {
		wantBytes(t, what, b, nil)
		wantFields(t, b)
	}
	m.Raw(2, []byte("ab"))
	wantBytes(t, "one put", m.Bytes(), hexBytes(t, "12026162"))
}

// P6.2, R3: a nil message takes nothing, tells nothing, and does not panic.
func TestNilMessage(t *testing.T) {
	var none *proto.Message
	none.Int(1, 1)
	none.Int(0, 1)
	none.Raw(1, nil)
	none.Raw(1, []byte("ab"))
	none.Raw(101, make([]byte, api.MaxBytes+1))
	if got := none.Bytes(); got != nil {
		t.Errorf("got %x", got)
	}
	wantBytes(t, "another message", new(proto.Message).Bytes(), nil)
}

// P6.1: one field, by hand.
func TestOneField(t *testing.T) {
	for _, x := range []struct {
		f    proto.Field
		want string
	}{
		{number(1, 0), "0800"},
		{number(1, 1), "0801"},
		{number(1, 127), "087f"},
		{number(1, 128), "088001"},
		{number(1, math.MaxUint64), "08ffffffffffffffffff01"},
		{number(2, 5), "1005"},
		{number(15, 5), "7805"},
		{number(16, 5), "800105"},
		{number(100, 5), "a00605"},
		{raw(1, nil), "0a00"},
		{raw(1, []byte{}), "0a00"},
		{raw(1, []byte{0}), "0a0100"},
		{raw(2, []byte("ab")), "12026162"},
		{raw(15, []byte("ab")), "7a026162"},
		{raw(16, []byte("ab")), "8201026162"},
		{raw(100, []byte("ab")), "a206026162"},
	} {
		wantBytes(t, "one field", written(x.f), hexBytes(t, x.want))
	}
}

// P6.1: of bytes how many they are, at the borders of that number.
func TestRawOfLengths(t *testing.T) {
	for _, x := range []struct {
		n    int
		head string
	}{
		{0, "0a00"}, {1, "0a01"}, {127, "0a7f"}, {128, "0a8001"}, {16383, "0aff7f"}, {16384, "0a808001"},
		{api.MaxBytes - 1, "0affff03"}, {api.MaxBytes, "0a808004"},
	} {
		b := pattern(x.n)
		wantBytes(t, "Raw", written(raw(1, b)), append(hexBytes(t, x.head), b...))
	}
}

// P6.1: more than MaxBytes bytes are not put, and leave what was put.
func TestRawOfTooMany(t *testing.T) {
	m := &proto.Message{}
	for _, n := range []int{api.MaxBytes + 1, api.MaxBytes + 2, 2 * api.MaxBytes, 1 << 20} {
		m.Raw(1, make([]byte, n))
	}
	wantBytes(t, "nothing else", m.Bytes(), nil)
	m.Int(1, 300)
	m.Raw(1, make([]byte, api.MaxBytes+1))
	m.Raw(2, []byte("ab"))
	wantBytes(t, "ahead and behind", m.Bytes(), hexBytes(t, "08ac0212026162"))
}

// P6.1: the limit is one of a field's bytes, not of all.
func TestManyBytesInAll(t *testing.T) {
	m := &proto.Message{}
	var want []byte
	for i := range 3 {
		b := pattern(api.MaxBytes)
		m.Raw(i+1, b)
		want = append(want, byte(8*(i+1)+2), 0x80, 0x80, 0x04)
		want = append(want, b...)
	}
	wantBytes(t, "three of MaxBytes", m.Bytes(), want)
}

// P6.1: every num from 1 to 100, and none else, even if eight times it would go round to one of these.
func TestNums(t *testing.T) {
	for num := 1; num <= 100; num++ {
		for wire, f := range map[int]proto.Field{0: number(num, 7), 2: raw(num, []byte{5, 6, 7, 8, 9, 10, 11})} {
			tag := proto.Varint(uint64(8*num + wire))
			if got := written(f); !bytes.HasPrefix(got, append(tag, 7)) || len(got) != len(tag)+1+len(f.B) {
				t.Errorf("num %d, wire type %d: got %x", num, wire, got)
			}
		}
	}
	for _, num := range []int{
		0, -1, -2, -100, 101, 102, 127, 128, 200, 256, 257, 1 << 29, 1<<29 + 1, 1 << 32, 1<<32 + 1,
		1 << 61, 1<<61 + 1, -1<<61 + 1, 1<<62 + 1, math.MaxInt, math.MinInt, math.MinInt + 1,
	} {
		m := &proto.Message{}
		m.Int(num, 1)
		m.Raw(num, []byte("ab"))
		m.Raw(num, nil)
		wantBytes(t, "num out of reach", m.Bytes(), nil)
		m.Int(1, 300)
		m.Int(num, 1)
		m.Raw(num, []byte("ab"))
		m.Int(1, 1)
		wantBytes(t, "between others", m.Bytes(), hexBytes(t, "08ac020801"))
	}
}

// P6.1: fields stand as they were put, whatever their nums, and one may come twice.
func TestOrder(t *testing.T) {
	m := &proto.Message{}
	m.Int(3, 1)
	m.Raw(1, []byte("b"))
	m.Int(1, 2)
	m.Raw(1, []byte("a"))
	m.Int(3, 1)
	wantBytes(t, "as put", m.Bytes(), hexBytes(t, "1801"+"0a0162"+"0802"+"0a0161"+"1801"))
}

// P6.1: bytes told between two fields change nothing, and all told is told again.
func TestBytesBetween(t *testing.T) {
	m := &proto.Message{}
	wantBytes(t, "at first", m.Bytes(), nil)
	m.Int(1, 300)
	wantBytes(t, "one", m.Bytes(), hexBytes(t, "08ac02"))
	wantBytes(t, "asked again", m.Bytes(), hexBytes(t, "08ac02"))
	m.Raw(2, []byte("ab"))
	wantBytes(t, "two", m.Bytes(), hexBytes(t, "08ac0212026162"))
}

// P6.1: a message of many fields is made in a time that grows as they do.
func TestManyFields(t *testing.T) {
	m := &proto.Message{}
	var want []byte
	for i := range 300000 {
		m.Int(i%100+1, uint64(i))
		want = append(append(want, proto.Varint(uint64(8*(i%100+1)))...), proto.Varint(uint64(i))...)
	}
	wantBytes(t, "many", m.Bytes(), want)
}

// P6.1, R2: a message as a field of itself.
func TestOwnBytesPut(t *testing.T) {
	m := &proto.Message{}
	m.Int(1, 300)
	m.Raw(2, m.Bytes())
	m.Raw(3, m.Bytes())
	wantBytes(t, "itself", m.Bytes(), hexBytes(t, "08ac02"+"120308ac02"+"1a08"+"08ac02"+"120308ac02"))
}

// P6.1, R2: messages know nothing of one another.
func TestMessagesApart(t *testing.T) {
	a, b := &proto.Message{}, &proto.Message{}
	for i := range 40 {
		a.Int(1, uint64(i))
		b.Raw(2, []byte{byte(i)})
	}
	for i := range 40 {
		wantBytes(t, "one", a.Bytes()[2*i:2*i+2], []byte{8, byte(i)})
		wantBytes(t, "the other", b.Bytes()[3*i:3*i+3], []byte{0x12, 1, byte(i)})
	}
}

// P6.1, R2: a message that is copied goes its own way, and so does the copy's copy.
func TestCopyApart(t *testing.T) {
	for n := range 40 {
		m := &proto.Message{}
		for range n {
			m.Int(1, 1)
		}
		ahead := bytes.Repeat([]byte{8, 1}, n)
		first := *m
		second := first
		m.Int(2, 2)
		first.Int(3, 3)
		second.Raw(4, []byte("ab"))
		wantBytes(t, "the message", m.Bytes(), append(bytes.Clone(ahead), 0x10, 2))
		wantBytes(t, "its copy", first.Bytes(), append(bytes.Clone(ahead), 0x18, 3))
		wantBytes(t, "the copy's copy", second.Bytes(), append(bytes.Clone(ahead), 0x22, 2, 'a', 'b'))
	}
}

// P6.1, R2: what is handed in stays as it is, is not kept, and what lies behind its length is neither read nor written.
func TestRawKeepsNothing(t *testing.T) {
	for _, n := range []int{0, 1, 2, 127, 128, 1000, api.MaxBytes} {
		whole := pattern(n + 64)
		m := &proto.Message{}
		m.Raw(1, whole[:n])
		m.Int(1, 1)
		wantBytes(t, "handed in", whole, pattern(n+64))
		spoil(whole)
		want := append(append(append([]byte{0x0a}, proto.Varint(uint64(n))...), pattern(n)...), 8, 1)
		wantBytes(t, "changed afterwards", m.Bytes(), want)
	}
}

// P6.1, R2: what is told is the caller's own, of one field and of more.
func TestBytesAreNew(t *testing.T) {
	m := &proto.Message{}
	for range 3 {
		m.Raw(1, []byte("abc"))
		first, second := m.Bytes(), m.Bytes()
		want := bytes.Clone(second)
		spoil(first)
		wantBytes(t, "told before", second, want)
		wantBytes(t, "told afterwards", m.Bytes(), want)
		spoil(second)
	}
	m.Int(1, 1)
	wantBytes(t, "put behind it", m.Bytes(), hexBytes(t, "0a03616263"+"0a03616263"+"0a03616263"+"0801"))
}
