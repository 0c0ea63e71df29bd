package expr

import (
	"viaticum/api"
	"viaticum/term"
)

// leavesOne tells whether these are operations that may be, and make one term of an empty stack. For that it is enough to count the terms.
func leavesOne(ops []api.Op) bool {
	height := 0
	for len(ops) > 0 {
		o := ops[0]
		ops = ops[1:]
		if !isOp(o) || height < takes(o.Kind) {
			return false
		}
		// Each puts one: the lazy ones together with what they skip.
		height += 1 - takes(o.Kind)
		if o.Skip > len(ops) || o.Skip > 0 && !leavesOne(ops[:o.Skip]) {
			return false
		}
		ops = ops[o.Skip:]
	}
	return height == 1
}

// takes tells how many terms an operation of this kind takes off the stack.
func takes(kind int) int {
	switch kind {
	case api.OUnary, api.OAnd, api.OOr:
		return 1
	case api.OBinary:
		return 2
	}
	return 0
}

// isOp tells whether o by itself is as its kind has it: what a kind does not use is zero.
func isOp(o api.Op) bool {
	noTerm, noCode, noSkip := isZero(o.Term), o.Code == 0, o.Skip == 0
	switch o.Kind {
	case api.OTerm:
		return term.May(o.Term) && noCode && noSkip
	case api.OUnary:
		return noTerm && noSkip && o.Code >= api.UNot && o.Code <= api.ULength
	case api.OBinary:
		return noTerm && noSkip && o.Code >= api.BLess && o.Code <= api.BXorBits
	case api.OAnd, api.OOr:
		return noTerm && noCode && o.Skip >= 1
	}
	return false
}

func isZero(t api.Term) bool {
	return t.Kind == 0 && t.N == 0 && t.S == "" && len(t.L) == 0
}
