package op

import "viaticum/api"

// kinds are those of an operation's two sides; they may be any numbers.
type kinds struct{ a, b int }

func (k kinds) areBoth(kind int) bool { return k.a == kind && k.b == kind }

func (k kinds) areNumbers() bool  { return k.areBoth(api.TInt) }
func (k kinds) areTexts() bool    { return k.areBoth(api.TText) }
func (k kinds) areSets() bool     { return k.areBoth(api.TSet) }
func (k kinds) areMeasures() bool { return k.areNumbers() || k.areBoth(api.TDate) }
func (k kinds) areAddable() bool  { return k.areNumbers() || k.areTexts() }
func (k kinds) areStrings() bool  { return k.areTexts() || k.areBoth(api.TBytes) }
func (k kinds) areLike() bool     { return k.a == k.b && isFixed(k.a) }

// areWholeAndPart takes a set beside any kind: a set that is held against another, or a term that may be in it.
func (k kinds) areWholeAndPart() bool {
	return k.areTexts() || k.a == api.TSet && isFixed(k.b)
}

// isFixed tells whether this is the kind of a term that is no variable.
func isFixed(kind int) bool {
	switch kind {
	case api.TInt, api.TText, api.TDate, api.TBytes, api.TBool, api.TSet:
		return true
	}
	return false
}
