package expr

import (
	"slices"

	"viaticum/api"
	"viaticum/term"
)

const maxNames = 32

// mayPair tells whether the name at i, and what it is bound to, may stand behind the name ahead of it.
func mayPair(b api.Bind, i int) bool {
	if i > 0 && b.Names[i-1] >= b.Names[i] {
		return false
	}
	return term.Name(b.Names[i]) && term.Fixed(b.Terms[i])
}

// find looks name up in bindings that may be: by halves, for their names rise.
func find(b api.Bind, name string) (api.Term, bool) {
	i, ok := slices.BinarySearch(b.Names, name)
	if !ok {
		return api.Term{}, false
	}
	return b.Terms[i], true
}

// own is t, which may be, with a list of its own.
func own(t api.Term) api.Term {
	var l []api.Term
	for _, x := range t.L {
		// A set holds no sets, so this list is empty; but it may have room, and that room is the caller's.
		x.L = nil
		l = append(l, x)
	}
	t.L = l
	return t
}
