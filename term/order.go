package term

import (
	"cmp"
	"slices"

	"viaticum/api"
)

// depth bounds how many lists in one another are looked at: one may hold itself, and every look has to end.
const depth = 3

// view is a term, and how many lists in one another are looked at from there on.
type view struct {
	term  api.Term
	lists int
}

// order tells by what two terms are held against each other; the first that tells them apart decides.
func order() [4]func(a, b view) int {
	return [...]func(a, b view) int{view.byKind, view.byNumber, view.byText, view.byList}
}

func (a view) compare(b view) int {
	for _, by := range order() {
		if c := by(a, b); c != 0 {
			return c
		}
	}
	return 0
}

func (a view) byKind(b view) int   { return cmp.Compare(a.term.Kind, b.term.Kind) }
func (a view) byNumber(b view) int { return cmp.Compare(a.term.N, b.term.N) }
func (a view) byText(b view) int   { return cmp.Compare(a.term.S, b.term.S) }

// byList finds nothing between two lists that lie too deep, however long they are.
func (a view) byList(b view) int {
	if a.lists == 0 {
		return 0
	}
	return slices.CompareFunc(a.term.L, b.term.L, func(x, y api.Term) int {
		return view{x, a.lists - 1}.compare(view{y, b.lists - 1})
	})
}
