package regex

import "viaticum/api"

const maxDepth = 20 // parentheses within one another

// parser reads a pattern from the first byte on, so that the fault it meets is the first one.
type parser struct {
	text  string
	at    int // the byte that is read next
	depth int // parentheses that are open
}

// next tells the byte that is read next, and false at the end.
func (p *parser) next() (byte, bool) {
	if p.at == len(p.text) {
		return 0, false
	}
	return p.text[p.at], true
}

// take reads a byte, where it is that one.
func (p *parser) take(c byte) bool {
	if next, ok := p.next(); !ok || next != c {
		return false
	}
	p.at++
	return true
}

// pattern reads alternatives up to the end, or to a parenthesis that closes.
func (p *parser) pattern() ([]Inst, api.Errno) {
	var rows [][]Inst
	for {
		pieces, e := p.row()
		if e != api.OK {
			return nil, e
		}
		rows = append(rows, pieces)
		if !p.take('|') {
			break
		}
	}
	last := len(rows) - 1
	steps := rows[last]
	for i := last - 1; i >= 0; i-- {
		steps = either(rows[i], steps)
	}
	return steps, api.OK
}

// row reads pieces up to the end, a bar, or a parenthesis that closes.
func (p *parser) row() ([]Inst, api.Errno) {
	var steps []Inst
	for {
		c, ok := p.next()
		if !ok || c == '|' || c == ')' {
			return steps, api.OK
		}
		p.at++
		atom, e := p.atom(c)()
		if e != api.OK {
			return nil, e
		}
		steps = append(steps, p.repeated(atom)...)
	}
}

// repeated is the atom as often as the byte behind it says.
func (p *parser) repeated(atom []Inst) []Inst {
	switch {
	case p.take('*'):
		return star(atom)
	case p.take('+'):
		return plus(atom)
	case p.take('?'):
		return option(atom)
	}
	return atom
}

// atom tells how the atom is read whose first byte, c, has just been read.
func (p *parser) atom(c byte) func() ([]Inst, api.Errno) {
	switch c {
	case '\\':
		return p.escaped
	case '.':
		return p.any
	case '[':
		return p.class
	case '(':
		return p.group
	case '^':
		return p.first
	case '$':
		return p.last
	case '*', '+', '?':
		return p.nothing
	}
	return p.itself
}

// nothing is what can't begin an atom.
func (p *parser) nothing() ([]Inst, api.Errno) {
	return nil, api.ErrForm
}

func (p *parser) itself() ([]Inst, api.Errno) {
	return p.only(p.text[p.at-1])
}

func (p *parser) escaped() ([]Inst, api.Errno) {
	c, ok := p.next()
	if !ok {
		return nil, api.ErrForm
	}
	p.at++
	return p.only(c)
}

func (p *parser) only(c byte) ([]Inst, api.Errno) {
	var set byteSet
	set.add(c, c)
	return char(set), api.OK
}

func (p *parser) any() ([]Inst, api.Errno) {
	var none byteSet
	return char(none.others()), api.OK
}

func (p *parser) first() ([]Inst, api.Errno) {
	return step(First), api.OK
}

func (p *parser) last() ([]Inst, api.Errno) {
	return step(Last), api.OK
}

func (p *parser) group() ([]Inst, api.Errno) {
	if p.depth == maxDepth {
		return nil, api.ErrSize
	}
	p.depth++
	steps, e := p.pattern()
	if e != api.OK {
		return nil, e
	}
	if !p.take(')') {
		return nil, api.ErrForm
	}
	p.depth--
	return steps, api.OK
}
