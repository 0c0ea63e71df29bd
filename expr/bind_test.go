package expr_test

import (
	"slices"
	"strings"
	"testing"

	"viaticum/api"
	"viaticum/expr"
)

// bound is so many names, each bound to a number of its own.
func bound(names int) api.Bind {
	var b api.Bind
	for i := range names {
		b.Names = append(b.Names, numbered(i))
		b.Terms = append(b.Terms, num(int64(i)))
	}
	return b
}

// P12.2: as many Names as Terms.
func TestAsManyNamesAsTerms(t *testing.T) {
	for names := range 35 {
		for terms := range 35 {
			b := api.Bind{Names: bound(names).Names, Terms: bound(terms).Terms}
			wantMayBind(t, names == terms && names <= 32, b)
		}
	}
	wantMayBind(t, true, api.Bind{}, api.Bind{Names: []string{}, Terms: []api.Term{}}, api.Bind{Names: []string{}}, api.Bind{Terms: []api.Term{}})
	wantMayBind(t, false, api.Bind{Names: bound(90).Names, Terms: bound(90).Terms})
}

// P12.2: names rise, wherever they don't.
func TestNamesRise(t *testing.T) {
	wantMayBind(t, true, bind("a", num(1), "b", num(1)), bind("A", num(1), "a", num(1)), bind("Z", num(1), "a", num(1)), bind("a", num(1), "a1", num(1)), bind("a1", num(1), "a:", num(1), "aA", num(1), "a_", num(1), "aa", num(1)), bind("a10", num(1), "a9", num(1)))
	wantMayBind(t, false, bind("b", num(1), "a", num(1)), bind("a", num(1), "a", num(1)), bind("a", num(1), "a", num(2)), bind("a", num(1), "A", num(1)), bind("a1", num(1), "a", num(1)), bind("a9", num(1), "a10", num(1)))
	for i := range 31 {
		swapped, twice := bound(32), bound(32)
		swapped.Names[i], swapped.Names[i+1] = swapped.Names[i+1], swapped.Names[i]
		twice.Names[i] = twice.Names[i+1]
		wantMayBind(t, false, swapped, twice)
	}
}

// P12.2: each is a Name, the first, the last, and between.
func TestNamesAreNames(t *testing.T) {
	for _, s := range []string{"", "9", "_", ":", "$x", "-", "\x00", "\xff", "é", "hex:", "hex:ab", "a-b", "a b", "zz\x00", "z\xff", strings.Repeat("a", 33), strings.Repeat("z", 33), strings.Repeat("z", 1<<20)} {
		names := []string{s, "b", "c", "y", "ya"}
		slices.Sort(names)
		for _, l := range [][]string{{s}, names} {
			wantMayBind(t, false, api.Bind{Names: l, Terms: bound(len(l)).Terms})
		}
	}
	wantMayBind(t, true, bind("Z9_:x", num(1), "hex", num(1), "hexa:", num(2), strings.Repeat("z", 32), num(3)))
}

// P12.2: each Term is Fixed, the first, the last, and between.
func TestBoundTerms(t *testing.T) {
	for _, x := range fixed() {
		wantMayBind(t, true, bind("a", x), bind("a", x, "b", x), bind("a", num(1), "b", x, "c", text("")))
	}
	for _, x := range append(unfixed(), variable("x"), variable("a"), variable("z")) {
		wantMayBind(t, false, bind("a", x), bind("a", x, "b", num(1)), bind("a", num(1), "b", x), bind("a", num(1), "b", x, "c", num(1)))
		last := bound(32)
		last.Terms[31] = x
		wantMayBind(t, false, last)
	}
}

// P12.2: Look of names that are there, at each place, and of those beside them that are not.
func TestLook(t *testing.T) {
	for many := range 33 {
		b := bound(many)
		for i := range many + 2 {
			got, ok := expr.Look(b, numbered(i))
			want := api.Term{}
			if i < many {
				want = num(int64(i))
			}
			if ok != (i < many) || !alike(got, want) {
				t.Errorf("of %d, %d: got %s, %v", many, i, brief(got), ok)
			}
		}
		for _, name := range []string{"", "a", "a0", "a000", "A00", "a00 ", "a01a", "b", "z", "a-1", "\xff", "\x00", "hex:", strings.Repeat("a", 1<<20)} {
			if got, ok := expr.Look(b, name); ok || !alike(got, api.Term{}) {
				t.Errorf("of %d, %.20q: got %s", many, name, brief(got))
			}
		}
	}
	for _, x := range fixed() {
		if got, ok := expr.Look(bind("a", num(5), "b", x, "c", num(6)), "b"); !ok || !alike(got, x) {
			t.Errorf("%s: got %s, %v", brief(x), brief(got), ok)
		}
	}
}

// P12.2: nothing is bound in bindings that may not be, even where the name itself would do.
func TestLookWhereNoneMayBe(t *testing.T) {
	for _, b := range []api.Bind{
		{Names: []string{"a"}}, {Terms: []api.Term{num(1)}}, {Names: []string{"a", "b"}, Terms: []api.Term{num(1)}}, {Names: []string{"a"}, Terms: []api.Term{num(1), num(2)}},
		bind("b", num(1), "a", num(2)), bind("a", num(1), "a", num(1)), bind("a", num(1), "b", variable("x")), bind("9", num(1), "a", num(2)), bind("a", num(1), "b", api.Term{}), bound(33), bound(90),
	} {
		for _, name := range append([]string{"a", "b", "9", "", numbered(0), numbered(32)}, b.Names...) {
			if got, ok := expr.Look(b, name); ok || !alike(got, api.Term{}) || got.L != nil {
				t.Errorf("Look(%s, %q): got %s, %v", brief(b), name, brief(got), ok)
			}
		}
	}
}

func wantNames(t *testing.T, e api.Expr, want ...string) {
	t.Helper()
	if got := expr.Names(e); !slices.Equal(got, want) {
		t.Errorf("Names(%s): got %v, want %v", brief(e), got, want)
	}
}

// P12.2: the names of all variables, rising, each once.
func TestNames(t *testing.T) {
	wantNames(t, of(n(1)))
	wantNames(t, of(put(text("x"))))
	wantNames(t, of(put(raw("x")), put(set(text("x"))), two(api.BSame)))
	wantNames(t, of(name("x")), "x")
	wantNames(t, of(name("x"), name("x"), two(api.BAdd)), "x")
	wantNames(t, of(name("x"), name("y"), two(api.BAdd), name("x"), two(api.BAdd)), "x", "y")
	wantNames(t, of(name("y"), name("x"), two(api.BAdd)), "x", "y")
	wantNames(t, of(name("b"), name("a"), two(1), name("B"), two(1), name("a1"), two(1), name("a"), two(1), name("A"), two(1)), "A", "B", "a", "a1", "b")
	// Whether they are skipped or not, whatever it would come to.
	wantNames(t, of(is(false), and(1), name("x")), "x")
	wantNames(t, of(name("z"), or(5), name("y"), and(1), name("x"), or(1), name("y")), "x", "y", "z")
	wantNames(t, after([]api.Op{is(true), or(5)}, byZero(), []api.Op{name("x"), two(api.BAdd)}), "x")
}

// P12.2: as many as there is room for, in whatever order.
func TestManyNames(t *testing.T) {
	var want []string
	for i := range 16 {
		want = append(want, numbered(i))
	}
	for step := 1; step < 16; step += 2 {
		l := []api.Op{name(numbered(0))}
		for i := 1; i < 16; i++ {
			l = append(l, name(numbered(i*step%16)), two(api.BAdd))
		}
		wantNames(t, after(l), want...)
	}
}

// P12.2: nothing of an expression that may not be.
func TestNamesWhereNoneMayBe(t *testing.T) {
	wantNames(t, api.Expr{})
	wantNames(t, of(name("x"), name("y")))
	wantNames(t, of(name("x"), two(api.BAdd)))
	wantNames(t, of(name("x"), name("9"), two(api.BAdd)))
	wantNames(t, of(name("9")))
	wantNames(t, of(name("x"), api.Op{Kind: api.OUnary, Code: 1, Term: variable("y")}))
	wantNames(t, of(name("x"), and(2), name("y")))
	wantNames(t, after([]api.Op{name("x"), or(31)}, many(31)))
}
