package op

import "viaticum/api"

// side is the term of an operation that has one side.
type side api.Term

func (a side) not() (api.Term, api.Errno) {
	if a.Kind != api.TBool {
		return api.Term{}, api.ErrType
	}
	return truth(a.N == 0)
}

func (a side) negative() (api.Term, api.Errno) {
	if a.Kind != api.TInt {
		return api.Term{}, api.ErrType
	}
	return number(negative(a.N))
}

func (a side) length() (api.Term, api.Errno) {
	switch a.Kind {
	case api.TText, api.TBytes:
		return number(int64(len(a.S)), api.OK)
	case api.TSet:
		return number(int64(len(a.L)), api.OK)
	}
	return api.Term{}, api.ErrType
}

func truth(is bool) (api.Term, api.Errno) {
	if is {
		return api.Term{Kind: api.TBool, N: 1}, api.OK
	}
	return api.Term{Kind: api.TBool}, api.OK
}

func number(n int64, e api.Errno) (api.Term, api.Errno) {
	if e != api.OK {
		return api.Term{}, e
	}
	return api.Term{Kind: api.TInt, N: n}, api.OK
}
