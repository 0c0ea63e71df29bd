package op

import (
	"strings"

	"viaticum/api"
	"viaticum/match"
	"viaticum/term"
)

// sides are the terms of an operation that has two, of Kinds of which it may be.
type sides struct{ a, b api.Term }

func (s sides) less() (api.Term, api.Errno)    { return truth(s.a.N < s.b.N) }
func (s sides) more() (api.Term, api.Errno)    { return truth(s.a.N > s.b.N) }
func (s sides) atMost() (api.Term, api.Errno)  { return truth(s.a.N <= s.b.N) }
func (s sides) atLeast() (api.Term, api.Errno) { return truth(s.a.N >= s.b.N) }
func (s sides) same() (api.Term, api.Errno)    { return truth(term.Same(s.a, s.b)) }
func (s sides) other() (api.Term, api.Errno)   { return truth(!term.Same(s.a, s.b)) }

// add lays texts one behind the other, and adds numbers.
func (s sides) add() (api.Term, api.Errno) {
	if s.a.Kind != api.TText {
		return number(sum(s.a.N, s.b.N))
	}
	// Ahead of laying them together, so that nothing too long is made.
	if len(s.a.S)+len(s.b.S) > api.MaxText {
		return api.Term{}, api.ErrSize
	}
	return api.Term{Kind: api.TText, S: s.a.S + s.b.S}, api.OK
}

func (s sides) subtract() (api.Term, api.Errno) { return number(difference(s.a.N, s.b.N)) }
func (s sides) multiply() (api.Term, api.Errno) { return number(product(s.a.N, s.b.N)) }
func (s sides) divide() (api.Term, api.Errno)   { return number(quotient(s.a.N, s.b.N)) }

// contains takes texts, two sets, or a set and a term.
func (s sides) contains() (api.Term, api.Errno) {
	switch {
	case s.a.Kind == api.TText:
		return truth(strings.Contains(s.a.S, s.b.S))
	case s.b.Kind == api.TSet:
		return truth(len(without(s.b, s.a)) == 0)
	}
	return truth(term.Has(s.a, s.b))
}

func (s sides) starts() (api.Term, api.Errno) { return truth(strings.HasPrefix(s.a.S, s.b.S)) }
func (s sides) ends() (api.Term, api.Errno)   { return truth(strings.HasSuffix(s.a.S, s.b.S)) }

func (s sides) matches() (api.Term, api.Errno) {
	fits, e := match.Find(s.b.S, s.a.S)
	if e != api.OK {
		return api.Term{}, e
	}
	return truth(fits)
}

func (s sides) meet() (api.Term, api.Errno) { return term.Set(within(s.a, s.b)) }

func (s sides) join() (api.Term, api.Errno) {
	if !areLikeSets(s.a, s.b) {
		return api.Term{}, api.ErrType
	}
	// A list of its own: a's may have room behind its end, and that room is the caller's.
	var either []api.Term
	either = append(either, s.a.L...)
	either = append(either, without(s.b, s.a)...)
	if len(either) > api.MaxSet {
		return api.Term{}, api.ErrSize
	}
	return term.Set(either)
}

func (s sides) andBits() (api.Term, api.Errno) { return number(s.a.N&s.b.N, api.OK) }
func (s sides) orBits() (api.Term, api.Errno)  { return number(s.a.N|s.b.N, api.OK) }
func (s sides) xorBits() (api.Term, api.Errno) { return number(s.a.N^s.b.N, api.OK) }
