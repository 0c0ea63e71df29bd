package expr_test

import (
	"slices"
	"testing"

	"viaticum/api"
	"viaticum/expr"
)

// P12.1: 1 to MaxOps operations.
func TestHowMany(t *testing.T) {
	wantMay(t, false, api.Expr{}, of(), api.Expr{Ops: many(1)[:0]})
	for ops := 1; ops <= 70; ops++ {
		wantMay(t, ops <= 32, after(many(ops)))
	}
	wantMay(t, false, after(many(1<<16)))
	// Those that are skipped count, too.
	wantMay(t, true, after([]api.Op{is(true), and(30)}, many(30)), after(many(29), []api.Op{or(2)}, many(2)))
	wantMay(t, false, after([]api.Op{is(true), and(31)}, many(31)), after(many(30), []api.Op{or(2)}, many(2)))
}

// deep are lazy operations in one another, so many of them, each within what the one ahead skips.
func deep(lazy int) []api.Op {
	l := []api.Op{is(true)}
	for range lazy {
		skip := len(l)
		l = slices.Concat([]api.Op{is(true), and(skip)}, l)
	}
	return l
}

// P12.1: nested as deep as there is room for; far beyond it, it ends.
func TestDeep(t *testing.T) {
	for lazy := range 40 {
		wantMay(t, 2*lazy+1 <= 32, after(deep(lazy)))
	}
	wantMay(t, false, after(deep(3000)))
}

// P12.1: terms that may be, and variables; and those that may not.
func TestTerms(t *testing.T) {
	for _, x := range fixed() {
		wantMay(t, true, of(put(x)))
		wantMay(t, false, of(api.Op{Kind: api.OTerm, Term: x, Code: 1}), of(api.Op{Kind: api.OTerm, Term: x, Code: -1}), of(api.Op{Kind: api.OTerm, Term: x, Skip: 1}), of(api.Op{Kind: api.OTerm, Term: x, Skip: -1}))
		wantMay(t, false, of(api.Op{Kind: api.OTerm, Term: x, Skip: 1}, n(1)), of(api.Op{Kind: api.OTerm, Term: x, Skip: 2}, n(1), two(api.BAdd)))
	}
	wantMay(t, true, of(name("x")), of(name("hex")), of(name("Z9_:x")))
	for _, x := range unfixed() {
		wantMay(t, false, of(put(x)), of(put(x), one(api.UNot)), of(n(1), put(x), two(api.BAdd)), of(put(x), n(1), two(api.BAdd)), of(is(false), and(1), put(x)))
	}
}

// codes are numbers about those of the operations, and far off.
func codes() []int {
	l := []int{least, least + 1, -256, -19, -3, 100, 255, 256, 257, 1 << 32, 1<<32 + 1, most - 1, most}
	for code := -2; code < 40; code++ {
		l = append(l, code)
	}
	return l
}

// P12.1: the codes that there are, below and above them.
func TestCodes(t *testing.T) {
	for _, code := range codes() {
		wantMay(t, code >= 1 && code <= 3, of(n(1), one(code)), of(is(false), and(2), n(1), one(code)))
		wantMay(t, code >= 1 && code <= 19, of(n(1), n(1), two(code)), of(is(true), or(3), n(1), n(1), two(code)))
		wantMay(t, code == 0, of(api.Op{Kind: api.OTerm, Term: num(1), Code: code}), of(is(true), api.Op{Kind: api.OAnd, Code: code, Skip: 1}, n(1)), of(is(true), api.Op{Kind: api.OOr, Code: code, Skip: 1}, n(1)))
	}
}

// P12.1: the kinds that there are, and those that there are not, with what any kind might have beside them.
func TestKinds(t *testing.T) {
	for _, kind := range codes() {
		bare, coded, skips, termed := api.Op{Kind: kind}, api.Op{Kind: kind, Code: 1}, api.Op{Kind: kind, Skip: 1}, api.Op{Kind: kind, Term: num(1)}
		wantMay(t, false, of(bare), of(n(1), bare), of(n(1), n(1), bare), of(n(1), bare, n(1)), of(coded), of(skips), of(skips, n(1)))
		wantMay(t, kind == api.OTerm, of(termed))
		wantMay(t, kind == api.OUnary, of(n(1), coded))
		wantMay(t, kind == api.OBinary, of(n(1), n(1), coded))
		wantMay(t, kind == api.OAnd || kind == api.OOr, of(n(1), skips, n(1)))
	}
}

// P12.1: a Term where none may be, the whole of it or a part; a Code or a Skip where none may be.
func TestNothingElse(t *testing.T) {
	for _, x := range append(append(fixed(), unfixed()...), variable("x"), api.Term{L: []api.Term{{}}}, api.Term{N: -1}, api.Term{S: "\x00"}) {
		isNone := alike(x, api.Term{})
		wantMay(t, isNone, of(n(1), api.Op{Kind: api.OUnary, Code: 1, Term: x}), of(n(1), n(1), api.Op{Kind: api.OBinary, Code: 1, Term: x}))
		wantMay(t, isNone, of(n(1), api.Op{Kind: api.OAnd, Skip: 1, Term: x}, n(1)), of(n(1), api.Op{Kind: api.OOr, Skip: 1, Term: x}, n(1)))
	}
	for _, skip := range codes() {
		wantMay(t, skip == 0, of(n(1), api.Op{Kind: api.OUnary, Code: 1, Skip: skip}), of(n(1), n(1), api.Op{Kind: api.OBinary, Code: 1, Skip: skip}), of(api.Op{Kind: api.OTerm, Term: num(1), Skip: skip}))
		wantMay(t, skip == 0, of(n(1), api.Op{Kind: api.OUnary, Code: 1, Skip: skip}, one(1), one(1), one(1)), of(n(1), n(1), api.Op{Kind: api.OBinary, Code: 1, Skip: skip}, one(1), one(1), one(1)))
	}
	// An empty list is none, whatever room it has.
	room := api.Term{L: fixed()[:0]}
	wantMay(t, true, of(n(1), api.Op{Kind: api.OUnary, Code: 1, Term: room}), of(n(1), api.Op{Kind: api.OAnd, Skip: 1, Term: room}, n(1)))
}

// P12.1: fewer terms than are taken, at the beginning and within; nothing left, and two.
func TestStack(t *testing.T) {
	wantMay(t, true, of(n(1)), of(n(1), one(1)), of(n(1), n(2), two(1)), of(n(1), n(2), n(3), two(1), two(1)), of(n(1), n(2), two(1), n(3), two(1)), of(n(1), one(1), n(2), one(1), two(1), one(1)))
	wantMay(t, false, of(one(1)), of(two(1)), of(one(1), n(1)), of(two(1), n(1)), of(two(1), n(1), n(2)), of(n(1), two(1)), of(n(1), two(1), n(2)), of(n(1), one(1), two(1)), of(and(1), n(1)), of(or(1), n(1)), of(and(1), n(1), n(2)))
	wantMay(t, false, of(n(1), two(1), n(2), n(3)), of(n(1), n(2), two(1), two(1), n(3)), of(n(1), n(2), two(1), two(1), n(3), n(4)), of(n(1), n(2)), of(n(1), n(2), n(3)), of(n(1), n(2), n(3), two(1)), of(n(1), n(2), one(1)), of(n(1), one(1), n(2)))
}

// P12.1: a Skip of 0, below it, of as many operations as follow, of one more, and far beyond.
func TestSkips(t *testing.T) {
	for _, lazy := range []func(skip int) api.Op{and, or} {
		for _, skip := range codes() {
			// As many as follow.
			wantMay(t, skip == 1, of(n(1), lazy(skip), n(2)))
			wantMay(t, skip == 1 || skip == 3, of(n(1), lazy(skip), n(2), n(3), two(1)))
			// What follows is an expression up to each place, and may go on behind it.
			wantMay(t, skip >= 1 && skip <= 5, after([]api.Op{n(1), lazy(skip)}, many(5)))
			wantMay(t, false, of(n(1), lazy(skip)), of(lazy(skip)), of(lazy(skip), n(1)), of(n(1), n(2), lazy(skip)))
		}
	}
}

// P12.1: what is skipped by itself leaves one term, and takes none from below it.
func TestSkipped(t *testing.T) {
	for _, lazy := range []func(skip int) api.Op{and, or} {
		// One term below, or more, it doesn't matter.
		for _, below := range [][]api.Op{{n(9)}, {n(8), n(9)}, {n(7), n(8), n(9)}} {
			above := []api.Op{two(1), two(1)}[:len(below)-1]
			with := func(skip int, l ...api.Op) api.Expr { return after(below, []api.Op{lazy(skip)}, l, above) }
			wantMay(t, true, with(1, n(1)), with(2, n(1), one(1)), with(1, n(1), one(1)), with(3, n(1), n(2), two(1)), with(1, n(1), n(2), two(1)))
			// Two terms are left, and taken behind, or not.
			wantMay(t, false, with(2, n(1), n(2)), with(2, n(1), n(2), two(1)), with(3, n(1), n(2), n(3), two(1)), with(2, n(1), n(2), two(1), two(1)))
			// None is left; one is taken from below, and put.
			wantMay(t, false, with(1, one(1)), with(1, one(1), n(1), two(1)), with(2, one(1), n(1)), with(2, n(1), two(1)), with(2, n(1), two(1), n(2)), with(3, n(1), two(1), n(2)), with(1, two(1), n(1)), with(2, two(1), n(1)))
		}
	}
}

// P12.1: one within what another skips, in both orders, and its end up to that of the outer one and beyond.
func TestNested(t *testing.T) {
	for _, outer := range []func(skip int) api.Op{and, or} {
		for _, inner := range []func(skip int) api.Op{and, or} {
			for skip := -1; skip < 9; skip++ {
				// Behind the inner one stand a term, and two operations that turn it round, up to the outer end; then two more.
				inside := func(outerSkip int) api.Expr {
					return of(is(true), outer(outerSkip), is(true), inner(skip), is(true), one(1), one(1), one(1), one(1))
				}
				wantMay(t, skip >= 1 && skip <= 3, inside(5))
				wantMay(t, skip >= 1 && skip <= 5, inside(7))
				wantMay(t, skip == 1, inside(3))
				wantMay(t, skip >= 1 && skip <= 5, inside(1))
				// The inner one has nothing to skip within the outer's.
				wantMay(t, false, inside(2), inside(8), inside(9))
			}
			wantMay(t, false, of(is(true), outer(1), inner(1), is(true)), of(is(true), outer(2), inner(1), is(true)), of(is(true), outer(3), is(true), inner(1)))
			wantMay(t, true, of(is(true), outer(1), is(true), inner(1), is(true), outer(1), is(true)))
		}
	}
}

// letter is one operation of the sequences that are made below: a digit is an OAnd of that Skip, a capital an OOr.
func letter(c byte) api.Op {
	switch {
	case c == 't':
		return n(1)
	case c == 'u':
		return one(1)
	case c == 'b':
		return two(1)
	case c >= '1' && c <= '9':
		return and(int(c - '0'))
	}
	return or(int(c-'A') + 1)
}

func lettered(s string) api.Expr {
	var l []api.Op
	for i := range len(s) {
		l = append(l, letter(s[i]))
	}
	return api.Expr{Ops: l}
}

// grown are all expressions of up to so many operations, put together of smaller ones: by what an expression is, not by counting.
func grown(ops int) map[string]bool {
	by := make([][]string, ops+1)
	all := map[string]bool{}
	for size := 1; size <= ops; size++ {
		if size == 1 {
			by[size] = append(by[size], "t")
		}
		for _, s := range by[size-1] {
			by[size] = append(by[size], s+"u")
		}
		for left := 1; left <= size-2; left++ {
			for _, a := range by[left] {
				for _, b := range by[size-1-left] {
					skip := len(b)
					by[size] = append(by[size], a+b+"b", a+string(rune('0'+skip))+b, a+string(rune('A'+skip-1))+b)
				}
			}
		}
		for _, s := range by[size] {
			all[s] = true
		}
	}
	return all
}

// P12.1: all sequences of a few operations: just those may be that can be put together of smaller ones.
func TestAllSequences(t *testing.T) {
	const longest = 5
	may := grown(longest)
	letters := "tub1234ABCD"
	sequences, found := []string{""}, 0
	for i := 0; i < len(sequences); i++ {
		s := sequences[i]
		if expr.May(lettered(s)) != may[s] {
			t.Fatalf("%s: want %v", s, may[s])
		}
		if may[s] {
			found++
		}
		if len(s) < longest {
			for j := range len(letters) {
				sequences = append(sequences, s+letters[j:j+1])
			}
		}
	}
	if found != len(may) || found == 0 {
		t.Errorf("%d of %d were met", found, len(may))
	}
}

// P12.1: longer ones, as they are, and with any one operation gone, twice there, or changed.
func TestLongSequences(t *testing.T) {
	may := grown(8)
	want := func(s string) {
		t.Helper()
		if expr.May(lettered(s)) != may[s] {
			t.Fatalf("%s: want %v", s, may[s])
		}
	}
	for s := range may {
		want(s)
		if testing.Short() && len(s) == 8 {
			continue
		}
		for i := range len(s) {
			want(s[:i] + s[i+1:])
			for _, c := range []string{"t", "u", "b", "1", "3", "A", "C"} {
				want(s[:i] + c + s[i+1:])
				if len(s) < 8 {
					want(s[:i] + c + s[i:])
				}
			}
		}
	}
}
