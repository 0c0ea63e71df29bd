package term_test

import (
	"testing"

	"viaticum/api"
	"viaticum/term"
)

// rising are terms, many of which may not be, each of them below the next one.
func rising() []api.Term {
	return []api.Term{
		{Kind: -1 << 63}, {Kind: -1}, {Kind: -1, S: "z"},
		{}, {L: []api.Term{{}}}, {S: "a"}, {N: 1}, {N: 1 << 40},
		{Kind: api.TVar, N: -1, S: "z"}, variable("X"), variable("x"), variable("x1"), variable("y"), {Kind: api.TVar, N: 1, S: "a"},
		num(-1 << 63), num(-1<<63 + 1), num(-1 << 32), num(-1),
		num(0), {Kind: api.TInt, L: nums(1)}, {Kind: api.TInt, S: "a"}, {Kind: api.TInt, S: "a", L: nums(1)}, {Kind: api.TInt, S: "b"},
		num(1), {Kind: api.TInt, N: 1, L: nums(3)}, num(1 << 32), num(1<<63 - 1),
		{Kind: api.TText, N: -1, S: "z"}, text(""), text("\x00"), text("\x00\x00"), text("9"), text("A"), text("a"), text("a\x00"), text("aa"), text("ab"), text("b"), text("\x7f"), text("\x80"), text("é"), text("\xff"), {Kind: api.TText, N: 1},
		date(-1), date(0), date(1), date(253402300799), date(253402300800),
		raw(""), raw("a"),
		truth(-1), truth(0), truth(1), truth(2),
		{Kind: api.TSet, N: -1, L: nums(5)},
		set(), set(api.Term{}), set(variable("x")),
		set(num(-1)), set(num(-1), num(-1)), set(num(-1), num(-1), num(-2)), set(num(-1), num(0)), set(num(0)),
		set(nums(2)...), set(nums(3)...), set(num(0), num(1), num(3)), set(num(0), num(2)), set(num(2)), set(num(2), num(1)),
		set(text("")), set(text("a")), set(text("a"), num(1)), set(text("a"), text("a")), set(text("b")), set(truth(0)),
		set(set()), set(set(), num(1)), set(set(), set()), set(set(), set(set())), set(set(num(1))), set(set(num(1)), num(0)), set(set(num(1), num(1))), set(set(num(2))),
		set(set(set())), set(set(set()), num(0)), set(set(set(), num(0))), set(set(set(num(1)))), set(set(set(num(1), num(0)))), set(set(set(num(2)))), set(set(set(text("")))),
		set(set(set(set()))), set(set(set(set()), num(1))), set(set(set(set(), num(2)))),
		{Kind: api.TSet, S: "a"}, {Kind: api.TSet, N: 1},
		{Kind: 8}, {Kind: 1<<63 - 1},
	}
}

// sign is -1, 0, 1.
func sign(n int) int { return min(max(n, -1), 1) }

// P7.1, P7.4: which is ahead of which, each against each; so it is an order of these.
func TestRising(t *testing.T) {
	l := rising()
	for i, a := range l {
		for k, b := range l {
			if got := term.Compare(a, copied(b)); got != sign(i-k) {
				t.Errorf("%v, %v: got %d, want %d", a, b, got, sign(i-k))
			}
			if got := term.Same(a, copied(b)); got != (i == k) {
				t.Errorf("Same of %v, %v: got %v", a, b, got)
			}
		}
	}
}

// P7.1: what is ahead decides, whatever follows it.
func TestOneAloneDecides(t *testing.T) {
	low, high := []api.Term{num(1)}, []api.Term{num(2)}
	for what, x := range map[string][2]api.Term{
		"Kind":               {{Kind: 2, N: 9, S: "z", L: high}, {Kind: 3, N: -9, S: "", L: low}},
		"N":                  {{Kind: 7, N: -9, S: "z", L: high}, {Kind: 7, N: -8, S: "", L: low}},
		"S":                  {{Kind: 7, N: 9, S: "ab", L: high}, {Kind: 7, N: 9, S: "b", L: low}},
		"L":                  {{Kind: 7, N: 9, S: "z", L: low}, {Kind: 7, N: 9, S: "z", L: high}},
		"Kind alone":         {{Kind: 2}, {Kind: 3}},
		"N alone":            {{Kind: 2, N: 1}, {Kind: 2, N: 2}},
		"S alone":            {{Kind: 3, S: "a"}, {Kind: 3, S: "b"}},
		"a term's N in L":    {set(num(1), text("z")), set(num(2), text("a"))},
		"a term's Kind in L": {set(num(2), num(9)), set(text(""), num(1))},
		"a second term":      {set(num(1), num(1), num(9)), set(num(1), num(2))},
		"an end":             {set(num(1)), set(num(1), num(-9))},
		"nothing at all":     {set(), set(api.Term{Kind: -9})},
		"N of great spread":  {num(-1 << 63), num(1<<63 - 1)},
		"Kind of as great":   {{Kind: -1 << 63}, {Kind: 1<<63 - 1}},
		"a set's N in a set": {set(api.Term{Kind: api.TSet, L: high}), set(api.Term{Kind: api.TSet, N: 1, L: low})},
		"a set's S in a set": {set(api.Term{Kind: api.TSet, L: high}), set(api.Term{Kind: api.TSet, S: "a", L: low})},
	} {
		if term.Compare(x[0], x[1]) != -1 || term.Compare(x[1], x[0]) != 1 || term.Same(x[0], x[1]) {
			t.Errorf("%s: got %d and %d", what, term.Compare(x[0], x[1]), term.Compare(x[1], x[0]))
		}
	}
}

// P7.1: three lists in one another are looked at, and of what is in the third all but its lists.
func TestDepth(t *testing.T) {
	for lists := range 12 {
		for what, x := range map[string][2]api.Term{
			"Kind": {num(1), text("")},
			"N":    {num(1), num(2)},
			"S":    {text("a"), text("b")},
		} {
			want := -1
			if lists > 3 {
				want = 0
			}
			a, b := within(lists, x[0]), within(lists, x[1])
			if term.Compare(a, b) != want || term.Compare(b, a) != -want || term.Same(a, b) != (want == 0) {
				t.Errorf("%s in %d lists: got %d", what, lists, term.Compare(a, b))
			}
		}
		want := -1
		if lists > 2 {
			want = 0
		}
		a, b := within(lists, set()), within(lists, set(num(1)))
		if term.Compare(a, b) != want || term.Compare(b, a) != -want || term.Same(a, b) != (want == 0) {
			t.Errorf("a list that ends first, in %d lists: got %d", lists, term.Compare(a, b))
		}
	}
}

// P7.1: what lies too deep is passed over, and what stands behind it is not.
func TestBehindTheDeep(t *testing.T) {
	a := set(set(set(set(num(2)), num(1)), num(1)), num(1))
	if b := set(set(set(set(num(1)), num(1)), num(1)), num(1)); !term.Same(a, b) {
		t.Error("apart by what lies too deep")
	}
	for i, b := range []api.Term{
		set(set(set(set(num(1)), num(2)), num(1)), num(1)),
		set(set(set(set(num(1)), num(1)), num(2)), num(1)),
		set(set(set(set(num(1)), num(1)), num(1)), num(2)),
	} {
		if term.Compare(a, b) != -1 || term.Compare(b, a) != 1 {
			t.Errorf("%d: got %d", i, term.Compare(a, b))
		}
	}
}

// P7.1, R3: a list that holds itself, and very deep ones, come to an end.
func TestOrderEnds(t *testing.T) {
	a, b := itself(), itself()
	if !term.Same(a, b) || !term.Same(a, set(a)) || !term.Same(a, within(4, num(1))) {
		t.Error("the same as far as is looked")
	}
	if term.Compare(a, within(3, num(1))) != 1 || term.Compare(set(), a) != -1 || term.Compare(a, set(set(), num(1))) != 1 {
		t.Error("not the same as far as is looked")
	}
	if !term.Same(within(1<<16, num(1)), within(1<<16, num(2))) {
		t.Error("very deep")
	}
}

// R2: nil and empty lists are one, in a list too, and what lies behind a list's length counts for nothing.
func TestOrderOfEmptyLists(t *testing.T) {
	room := nums(8)
	for _, x := range [][2]api.Term{
		{set(), {Kind: api.TSet, L: []api.Term{}}},
		{set(), {Kind: api.TSet, L: room[:0]}},
		{set(num(0)), {Kind: api.TSet, L: room[:1]}},
		{set(num(1)), set(api.Term{Kind: api.TInt, N: 1, L: room[:0]})},
	} {
		if !term.Same(x[0], x[1]) || term.Compare(x[1], x[0]) != 0 {
			t.Errorf("%v and %v", x[0], x[1])
		}
	}
}

// strewn are so many terms of few sorts, without a pattern, the same each time: many of them are alike.
func strewn(n int) []api.Term {
	x := uint64(88172645463325252)
	next := func(below uint64) uint64 {
		x = x*6364136223846793005 + 1442695040888963407
		return x >> 33 % below
	}
	var one func(lists int) api.Term
	one = func(lists int) api.Term {
		t := api.Term{Kind: int(next(2)) + 6, N: int64(next(2)) - 1, S: "ab"[:next(2)]}
		if lists > 0 {
			for range next(3) {
				t.L = append(t.L, one(lists-1))
			}
		}
		return t
	}
	var l []api.Term
	for range n {
		l = append(l, one(5))
	}
	return l
}

// P7.4: of any two either is ahead, or they are the same; and ahead of what is ahead is ahead.
func TestIsAnOrder(t *testing.T) {
	l := strewn(120)
	for _, a := range l {
		if term.Compare(a, a) != 0 {
			t.Errorf("%v is not the same as itself", a)
		}
		for _, b := range l {
			ab := term.Compare(a, b)
			if ab != -term.Compare(b, a) || ab != sign(ab) || term.Same(a, b) != (ab == 0) {
				t.Errorf("%v, %v: got %d", a, b, ab)
			}
			for _, c := range l {
				bc, ac := term.Compare(b, c), term.Compare(a, c)
				if ab <= 0 && bc <= 0 && (ac > 0 || ac == 0 && ab+bc < 0) {
					t.Fatalf("%v, %v, %v: got %d, %d, %d", a, b, c, ab, bc, ac)
				}
			}
		}
	}
}
