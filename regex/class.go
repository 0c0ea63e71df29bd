package regex

import "viaticum/api"

// byteSet has bit i of word j for the byte 64 j + i.
type byteSet [4]uint64

// add puts all bytes in from the low one to the high one.
func (s *byteSet) add(low, high byte) {
	for c := int(low); c <= int(high); c++ {
		s[c/64] |= 1 << (c % 64)
	}
}

// others are the bytes that are not in it.
func (s byteSet) others() byteSet {
	for i := range s {
		s[i] = ^s[i]
	}
	return s
}

// class reads one up to its bracket that closes.
func (p *parser) class() ([]Inst, api.Errno) {
	var set byteSet
	isOthers := p.take('^')
	// The first byte or range has to be there, so a bracket that closes may not stand in its place.
	for isMore := true; isMore; isMore = !p.take(']') {
		low, high, ok := p.span()
		if !ok {
			return nil, api.ErrForm
		}
		set.add(low, high)
	}
	if isOthers {
		set = set.others()
	}
	return char(set), api.OK
}

// span reads a byte of a class, or all from one byte to another, which is not below it.
func (p *parser) span() (low, high byte, ok bool) {
	low, ok = p.member()
	if !ok {
		return 0, 0, false
	}
	if !p.isBetween() {
		return low, low, true
	}
	p.at++
	high, ok = p.member()
	return low, high, ok && low <= high
}

// isBetween tells whether the byte behind one of a class is a - with another one behind; else such a - is itself.
func (p *parser) isBetween() bool {
	rest := p.text[p.at:]
	return len(rest) > 1 && rest[0] == '-' && rest[1] != ']'
}

// member reads a byte of a class as it is, or behind a backslash.
func (p *parser) member() (byte, bool) {
	c, ok := p.next()
	if !ok || c == ']' {
		return 0, false
	}
	p.at++
	if c != '\\' {
		return c, true
	}
	c, ok = p.next()
	if ok {
		p.at++
	}
	return c, ok
}
