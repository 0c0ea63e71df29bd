package proto

import (
	"bytes"

	"viaticum/api"
)

const (
	longest  = 10 // bytes of a varint of 64 bits
	lastByte = 1  // the most that the tenth may be: nine bytes hold 63 bits
)

// reader takes what it reads off the front of rest.
type reader struct{ rest []byte }

// field reads a tag and what follows it.
func (r *reader) field() (Field, api.Errno) {
	tag, e := r.varint()
	if e != api.OK {
		return Field{}, e
	}
	num, read := tag/wires, r.ways()[tag%wires]
	if num < 1 || num > maxNum || read == nil {
		return Field{}, api.ErrForm
	}
	return read(int(num))
}

// ways tells, by the wire type, what reads behind the tag; nil where there is no such type.
func (r *reader) ways() [wires]func(int) (Field, api.Errno) {
	return [wires]func(int) (Field, api.Errno){
		wireNumber: r.number,
		wireBytes:  r.whole,
	}
}

// number reads the number of a field.
func (r *reader) number(num int) (Field, api.Errno) {
	n, e := r.varint()
	if e != api.OK {
		return Field{}, e
	}
	return Field{Num: num, N: n}, api.OK
}

// whole reads how many bytes a field has, and these.
func (r *reader) whole(num int) (Field, api.Errno) {
	n, e := r.varint()
	if e != api.OK {
		return Field{}, e
	}
	// Held against each other as they are: n may be more than an int holds.
	if n > uint64(len(r.rest)) {
		return Field{}, api.ErrShort
	}
	b := bytes.Clone(r.rest[:n])
	r.rest = r.rest[n:]
	return Field{Num: num, Whole: true, B: b}, api.OK
}

// varint reads a number that is written as Varint writes it.
func (r *reader) varint() (uint64, api.Errno) {
	var n uint64
	for i, c := range r.rest {
		if i == longest-1 && c > lastByte {
			return 0, api.ErrForm
		}
		if i > 0 && c == 0 {
			return 0, api.ErrForm
		}
		n |= uint64(c&groupMask) << (groupBits * i)
		if c < moreBit {
			r.rest = r.rest[i+1:]
			return n, api.OK
		}
	}
	return 0, api.ErrShort
}
