package regex_test

import (
	"strings"
	"testing"

	"viaticum/api"
	"viaticum/regex"
)

// within puts s in so many parentheses within one another.
func within(many int, s string) string {
	return strings.Repeat("(", many) + s + strings.Repeat(")", many)
}

// wantOK wants a program within its bounds.
func wantOK(t *testing.T, s string) {
	t.Helper()
	l, e := regex.Compile(s)
	if e != api.OK {
		t.Errorf("%q: %d", s, e)
		return
	}
	wantBounds(t, s, l)
}

// P9.2: a text of 256 bytes may be, and of a longer one nothing else is told.
func TestLength(t *testing.T) {
	for _, s := range []string{"a", "|", ".", "^", "]", "\xff"} {
		wantOK(t, strings.Repeat(s, 256))
		wantErrno(t, strings.Repeat(s, 257), api.ErrSize)
	}
	for _, s := range []string{"a*", "a?", "a+", "()", "a|", `\\`} {
		wantOK(t, strings.Repeat(s, 128))
		wantErrno(t, strings.Repeat(s, 128)+"a", api.ErrSize)
	}
	wantOK(t, "["+strings.Repeat("a", 254)+"]")
	wantErrno(t, "["+strings.Repeat("a", 255), api.ErrForm)
	wantErrno(t, "["+strings.Repeat("a", 255)+"]", api.ErrSize)
	for _, s := range []string{"*", ")", "[", "(", "a**", `\`} {
		wantErrno(t, s+strings.Repeat("a", 257-len(s)), api.ErrSize)
	}
	wantErrno(t, strings.Repeat("a", 256)+"*", api.ErrSize)
	wantErrno(t, strings.Repeat("a", 255)+`\`, api.ErrForm)
	wantErrno(t, strings.Repeat("a", 100000), api.ErrSize)
}

// P9.1, P9.2: 20 parentheses within one another may be.
func TestDepth(t *testing.T) {
	for _, s := range []string{"", "a", "a|b", "a*", "|", "^", `\(`, "[(]", "[^(((]", `\)\(`} {
		for _, many := range []int{1, 2, 19, 20} {
			wantOK(t, within(many, s))
		}
		for _, many := range []int{21, 22, 40, 100} {
			wantErrno(t, within(many, s), api.ErrSize)
		}
	}
	wantProgram(t, within(20, "a"), program(char("a"), kind(regex.Done)))
	wantOK(t, within(20, "a")+within(20, "b"))
	wantOK(t, within(20, "a")+"|"+within(20, "b")+"*")
	wantOK(t, within(18, within(1, "a")+within(1, "b")+"(c|())"))
	wantErrno(t, within(20, "")+within(21, ""), api.ErrSize)
	wantErrno(t, within(19, "(a)((b))"), api.ErrSize)
	wantErrno(t, within(20, "a|()"), api.ErrSize)
	wantErrno(t, within(20, "a()"), api.ErrSize)
	wantOK(t, strings.Repeat("()", 128))
	wantOK(t, strings.Repeat("(a)", 85))
}

// P9.1: what looks like a parenthesis, but is a byte, counts for none.
func TestDepthOfBytes(t *testing.T) {
	wantOK(t, strings.Repeat(`\(`, 21))
	wantOK(t, "["+strings.Repeat("(", 21)+"]")
	wantOK(t, within(20, `\([((]`))
}

// P9.2: of a fault of form and a 21st parenthesis the one that comes first is told.
func TestDepthOrForm(t *testing.T) {
	open := strings.Repeat("(", 21)
	for _, s := range []string{"*", ")", "a**", "[]", "[b-a]", "[^]", "(*", "())", "(a|*", "+a", "?|", "[z-a", "a)", `[\]`} {
		wantErrno(t, s+open, api.ErrForm)
		wantErrno(t, s+open+strings.Repeat(")", 21), api.ErrForm)
		wantErrno(t, open+s, api.ErrSize)
		if !strings.Contains(s, ")") {
			wantErrno(t, "("+s+open, api.ErrForm)
		}
	}
	for _, s := range []string{"[", "[^", "[a-", `[\`} {
		wantErrno(t, s+open, api.ErrForm)
		wantErrno(t, open+s, api.ErrSize)
	}
	twenty := open[1:]
	for _, s := range []string{"", "a", "[", "*", `\`, `\(`, "[(", "))", ")*", "|+", strings.Repeat(")", 21), strings.Repeat(")", 19)} {
		wantErrno(t, twenty+s, api.ErrForm)
	}
	for _, s := range []string{"(", "(*", "((", "a(", "|(", "a*(", "()", ")((", "[(](", `\((`} {
		wantErrno(t, twenty+s, api.ErrSize)
	}
	for _, s := range []string{"*(", "|*(", ")**(", "[b-a](", "[](", `[\](`} {
		wantErrno(t, twenty+s, api.ErrForm)
	}
	wantErrno(t, "a|b"+open, api.ErrSize)
	wantErrno(t, `\`+open, api.ErrForm)
	wantErrno(t, `\(`+open, api.ErrSize)
}

// P9.3: patterns with as many steps as can be.
func TestManySteps(t *testing.T) {
	for _, s := range []string{
		strings.Repeat("a*", 128), strings.Repeat("|", 256), strings.Repeat("a*|", 85), strings.Repeat("^+|", 85), strings.Repeat("(a*|b?)*", 32), within(19, strings.Repeat("()*|", 50)), strings.Repeat("()*", 85), strings.Repeat("(|)*", 64),
	} {
		wantOK(t, s)
	}
	l, _ := regex.Compile(strings.Repeat("|", 256))
	if len(l) != 513 {
		t.Error(len(l))
	}
}
