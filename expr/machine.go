package expr

import (
	"viaticum/api"
	"viaticum/op"
)

// machine does the operations of an expression that may be, so that no operation finds fewer terms than it takes.
type machine struct {
	bind  api.Bind
	rest  []api.Op   // what is still to be done
	stack []api.Term // the upmost one last
}

// steps are what is done, by the kind of the operation; there is none of kind 0.
func (m *machine) steps() [api.OOr + 1]func(o api.Op) api.Errno {
	return [...]func(o api.Op) api.Errno{
		api.OTerm:   m.put,
		api.OUnary:  m.unary,
		api.OBinary: m.binary,
		api.OAnd:    m.and,
		api.OOr:     m.or,
	}
}

func (m *machine) run() api.Errno {
	steps := m.steps()
	for len(m.rest) > 0 {
		o := m.rest[0]
		m.rest = m.rest[1:]
		if e := steps[o.Kind](o); e != api.OK {
			return e
		}
	}
	return api.OK
}

func (m *machine) put(o api.Op) api.Errno {
	if o.Term.Kind != api.TVar {
		return m.push(o.Term, api.OK)
	}
	t, ok := find(m.bind, o.Term.S)
	if !ok {
		return api.ErrName
	}
	return m.push(t, api.OK)
}

func (m *machine) unary(o api.Op) api.Errno {
	return m.push(op.Unary(o.Code, m.pop()))
}

func (m *machine) binary(o api.Op) api.Errno {
	b := m.pop()
	a := m.pop()
	return m.push(op.Binary(o.Code, a, b))
}

func (m *machine) and(o api.Op) api.Errno { return m.lazy(o.Skip, false) }
func (m *machine) or(o api.Op) api.Errno  { return m.lazy(o.Skip, true) }

// lazy leaves out what it may skip, if the upmost term is the one that decides alone; else that term makes room for what follows.
func (m *machine) lazy(skip int, decides bool) api.Errno {
	top := m.pop()
	is, e := truth(top)
	if e != api.OK {
		return e
	}
	if is != decides {
		return api.OK
	}
	m.rest = m.rest[skip:]
	return m.push(top, api.OK)
}

// push takes an Errno, too, so that what op tells can be handed on as it comes.
func (m *machine) push(t api.Term, e api.Errno) api.Errno {
	if e != api.OK {
		return e
	}
	m.stack = append(m.stack, t)
	return api.OK
}

func (m *machine) pop() api.Term {
	end := len(m.stack) - 1
	t := m.stack[end]
	m.stack = m.stack[:end]
	return t
}

func truth(t api.Term) (bool, api.Errno) {
	if t.Kind != api.TBool {
		return false, api.ErrType
	}
	return t.N == 1, api.OK
}
