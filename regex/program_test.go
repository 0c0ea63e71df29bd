package regex_test

import (
	"testing"

	"viaticum/api"
	"viaticum/regex"
)

// The kinds have the numbers that the face gives them.
func TestKinds(t *testing.T) {
	for i, k := range []int{regex.Char, regex.Split, regex.Jump, regex.First, regex.Last, regex.Done} {
		if k != i+1 {
			t.Errorf("%d: %d", i+1, k)
		}
	}
}

// The chapter's example.
func TestExample(t *testing.T) {
	wantProgram(t, "a*", program(split(1, 3), char("a"), jump(0), kind(regex.Done)))
}

// P9.2: rows, and each form by itself.
func TestForms(t *testing.T) {
	done := kind(regex.Done)
	a, b, c := char("a"), char("b"), char("c")
	first, last := kind(regex.First), kind(regex.Last)
	for s, want := range map[string][]regex.Inst{
		"":     {done},
		"a":    {a, done},
		"abc":  {a, b, c, done},
		"a*":   {split(1, 3), a, jump(0), done},
		"a+":   {a, split(0, 2), done},
		"a?":   {split(1, 2), a, done},
		"ab*c": {a, split(2, 4), b, jump(1), c, done},
		"ab+c": {a, b, split(1, 3), c, done},
		"ab?c": {a, split(2, 3), b, c, done},
		"a*b*": {split(1, 3), a, jump(0), split(4, 6), b, jump(3), done},
		"a+b+": {a, split(0, 2), b, split(2, 4), done},
		"a?b?": {split(1, 2), a, split(3, 4), b, done},
		"^":    {first, done},
		"$":    {last, done},
		"^a$":  {first, a, last, done},
		"a^$b": {a, first, last, b, done},
		"^*":   {split(1, 3), first, jump(0), done},
		"$+":   {last, split(0, 2), done},
		"^?$*": {split(1, 2), first, split(3, 5), last, jump(2), done},
	} {
		wantProgram(t, s, want)
	}
}

// P9.2: alternatives, of which any may be empty.
func TestAlternatives(t *testing.T) {
	done := kind(regex.Done)
	a, b, c, d := char("a"), char("b"), char("c"), char("d")
	for s, want := range map[string][]regex.Inst{
		"a|b":     {split(1, 3), a, jump(4), b, done},
		"ab|cd":   {split(1, 4), a, b, jump(6), c, d, done},
		"|":       {split(1, 2), jump(2), done},
		"a|":      {split(1, 3), a, jump(3), done},
		"|a":      {split(1, 2), jump(3), a, done},
		"||":      {split(1, 2), jump(4), split(3, 4), jump(4), done},
		"a||b":    {split(1, 3), a, jump(6), split(4, 5), jump(6), b, done},
		"|a|":     {split(1, 2), jump(5), split(3, 5), a, jump(5), done},
		"a|b|c":   {split(1, 3), a, jump(7), split(4, 6), b, jump(7), c, done},
		"a|b|c|d": {split(1, 3), a, jump(10), split(4, 6), b, jump(10), split(7, 9), c, jump(10), d, done},
		"^|$":     {split(1, 3), kind(regex.First), jump(4), kind(regex.Last), done},
		"a*|b+":   {split(1, 5), split(2, 4), a, jump(1), jump(7), b, split(5, 7), done},
		"a|b?|c*": {split(1, 3), a, jump(10), split(4, 7), split(5, 6), b, jump(10), split(8, 10), c, jump(7), done},
	} {
		wantProgram(t, s, want)
	}
}

// P9.2: what stands in parentheses has its own steps alone, and a form around it takes them as a whole.
func TestParentheses(t *testing.T) {
	done := kind(regex.Done)
	a, b, c := char("a"), char("b"), char("c")
	for s, want := range map[string][]regex.Inst{
		"()":        {done},
		"(())":      {done},
		"(a)":       {a, done},
		"((a))b":    {a, b, done},
		"()*":       {split(1, 2), jump(0), done},
		"()+":       {split(0, 1), done},
		"()?":       {split(1, 1), done},
		"a()+":      {a, split(1, 2), done},
		"()|()":     {split(1, 2), jump(2), done},
		"(ab)*":     {split(1, 4), a, b, jump(0), done},
		"(ab)+":     {a, b, split(0, 3), done},
		"c(ab)+":    {c, a, b, split(1, 4), done},
		"(ab)?c":    {split(1, 3), a, b, c, done},
		"(a|b)*":    {split(1, 6), split(2, 4), a, jump(5), b, jump(0), done},
		"(a|b)+":    {split(1, 3), a, jump(4), b, split(0, 5), done},
		"(a|b)?":    {split(1, 5), split(2, 4), a, jump(5), b, done},
		"c(a|b)c":   {c, split(2, 4), a, jump(5), b, c, done},
		"(a|b)|c":   {split(1, 6), split(2, 4), a, jump(5), b, jump(7), c, done},
		"a|(b|c)":   {split(1, 3), a, jump(7), split(4, 6), b, jump(7), c, done},
		"(a*)*":     {split(1, 5), split(2, 4), a, jump(1), jump(0), done},
		"(a+)+":     {a, split(0, 2), split(0, 3), done},
		"(a?)?":     {split(1, 3), split(2, 3), a, done},
		"(a*b+)?":   {split(1, 6), split(2, 4), a, jump(1), b, split(4, 6), done},
		"((a|b)*c)": {split(1, 6), split(2, 4), a, jump(5), b, jump(0), c, done},
		"(|a)*":     {split(1, 5), split(2, 3), jump(4), a, jump(0), done},
	} {
		wantProgram(t, s, want)
	}
}

// R2: each answer is new memory.
func TestNewMemory(t *testing.T) {
	for _, s := range []string{"", "a", "(a|b)*c", "[^a]+", "a||b"} {
		first, _ := regex.Compile(s)
		kept := append([]regex.Inst{}, first...)
		for i := range first {
			first[i] = regex.Inst{Kind: 9, Set: set("z"), X: -1, Y: -1}
		}
		wantProgram(t, s, kept)
	}
}

// R3: whatever bytes come, there is a program within its bounds, or one of two errors.
func FuzzCompile(f *testing.F) {
	for _, s := range []string{"", "a*", "(a|b)+c?", `[^a-c\]]|^$`, "((((", "[]", `\`, "a**"} {
		f.Add(s)
	}
	r := newReader()
	f.Fuzz(func(t *testing.T, s string) {
		l, e := regex.Compile(s)
		switch e {
		case api.OK:
			wantBounds(t, s, l)
		case api.ErrForm, api.ErrSize:
			if l != nil {
				t.Errorf("%q: %d, and steps", s, e)
			}
		default:
			t.Errorf("%q: %d", s, e)
		}
		if isPlain(s) && e != api.ErrSize && r.isPattern(s) != (e == api.OK) {
			t.Errorf("%q: %d", s, e)
		}
	})
}

// isPlain tells whether Go's own patterns read the text byte by byte.
func isPlain(s string) bool {
	for i := range len(s) {
		if s[i] > 127 {
			return false
		}
	}
	return true
}
