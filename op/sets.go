package op

import (
	"viaticum/api"
	"viaticum/term"
)

// within tells those terms of a that are in b.
func within(a, b api.Term) []api.Term {
	return those(a, b, true)
}

// without tells those terms of a that are not in b.
func without(a, b api.Term) []api.Term {
	return those(a, b, false)
}

func those(a, b api.Term, areIn bool) []api.Term {
	var l []api.Term
	for _, t := range a.L {
		if term.Has(b, t) == areIn {
			l = append(l, t)
		}
	}
	return l
}

// areLikeSets tells whether two sets have terms of one Kind; an empty one has none that is unlike. All terms of one set are of one Kind, so the first speaks for them.
func areLikeSets(a, b api.Term) bool {
	return len(a.L) == 0 || len(b.L) == 0 || a.L[0].Kind == b.L[0].Kind
}
