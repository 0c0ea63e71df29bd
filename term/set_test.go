package term_test

import (
	"slices"
	"strings"
	"testing"

	"viaticum/api"
	"viaticum/term"
)

// P7.3: the chapter's example.
func TestExample(t *testing.T) {
	wantSet(t, "3, 1, 3", []api.Term{num(3), num(1), num(3)}, num(1), num(3))
}

// P7.3: sets by hand, of each kind.
func TestSet(t *testing.T) {
	wantSet(t, "nil", nil)
	wantSet(t, "nothing", []api.Term{})
	wantSet(t, "one", []api.Term{num(1)}, num(1))
	wantSet(t, "one, twice", []api.Term{num(1), num(1)}, num(1))
	wantSet(t, "numbers", []api.Term{num(1<<63 - 1), num(0), num(-1 << 63), num(-1)}, num(-1<<63), num(-1), num(0), num(1<<63-1))
	wantSet(t, "texts", []api.Term{text("b"), text("ab"), text(""), text("a"), text("B"), text("a")}, text(""), text("B"), text("a"), text("ab"), text("b"))
	wantSet(t, "dates", []api.Term{date(253402300799), date(0), date(1)}, date(0), date(1), date(253402300799))
	wantSet(t, "bytes", []api.Term{raw("\xff"), raw("\x00"), raw(""), raw("\xff")}, raw(""), raw("\x00"), raw("\xff"))
	wantSet(t, "truths", []api.Term{truth(1), truth(0), truth(1), truth(0)}, truth(0), truth(1))
}

// P7.3: of MaxSet terms at most; they count as they come, not as they stay.
func TestSetLengths(t *testing.T) {
	for n := range 40 {
		down := nums(n)
		slices.Reverse(down)
		alone := slices.Repeat([]api.Term{text("a")}, n)
		if n > api.MaxSet {
			wantNoSet(t, "too many", nums(n)...)
			wantNoSet(t, "too many, falling", down...)
			wantNoSet(t, "one, too often", alone...)
			continue
		}
		wantSet(t, "rising", nums(n), nums(n)...)
		wantSet(t, "falling", down, nums(n)...)
		wantSet(t, "one, often", alone, alone[:min(n, 1)]...)
	}
	wantNoSet(t, "very many", nums(100000)...)
}

// P7.3: none of what is not Fixed, none of sets, none of unlike kinds, wherever they stand.
func TestSetOfWhatMayNot(t *testing.T) {
	long := strings.Repeat("a", api.MaxText+1)
	of := map[int]api.Term{api.TInt: num(9), api.TText: text("z"), api.TDate: date(9), api.TBytes: raw("z"), api.TBool: truth(1)}
	for _, wrong := range []api.Term{
		{}, {Kind: 8}, {Kind: -1}, variable("x"), variable(""), set(), set(num(1)), set(set()), itself(), within(1<<16, num(1)),
		text(long), raw(long), date(-1), date(253402300800), truth(2), truth(-1),
		{Kind: api.TInt, S: "a"}, {Kind: api.TInt, L: nums(1)}, {Kind: api.TText, N: 1}, {Kind: api.TText, L: nums(1)}, {Kind: api.TBool, S: "a"},
	} {
		wantNoSet(t, "alone", wrong)
		wantNoSet(t, "twice", wrong, wrong)
		for _, right := range of {
			wantNoSet(t, "ahead", wrong, right)
			wantNoSet(t, "behind", right, wrong)
			wantNoSet(t, "between", right, wrong, right)
		}
	}
	for kind, a := range of {
		for other, b := range of {
			if kind != other {
				wantNoSet(t, "unlike", a, b)
				wantNoSet(t, "unlike, the third", a, a, b)
				wantNoSet(t, "unlike, the last of MaxSet", append(slices.Repeat([]api.Term{a}, api.MaxSet-1), b)...)
			}
		}
	}
}

// P7.3: as what one makes of them with a map and a sort.
func TestSetOfMany(t *testing.T) {
	x := uint64(3935559000370003845)
	for range 2000 {
		var l []api.Term
		there := map[int64]bool{}
		for range x >> 40 % 17 {
			x = x*6364136223846793005 + 1442695040888963407
			n := int64(x>>33%20) - 10
			l = append(l, num(n))
			there[n] = true
		}
		var want []api.Term
		for n := range int64(20) {
			if there[n-10] {
				want = append(want, num(n-10))
			}
		}
		wantSet(t, "strewn", l, want...)
		x = x*6364136223846793005 + 1442695040888963407
	}
}

// orders hands each order of l to do.
func orders(l []api.Term, do func(l []api.Term)) {
	var from func(n int)
	from = func(n int) {
		if n == len(l) {
			do(l)
			return
		}
		for i := n; i < len(l); i++ {
			l[n], l[i] = l[i], l[n]
			from(n + 1)
			l[n], l[i] = l[i], l[n]
		}
	}
	from(0)
}

// P7.4: a set is one, in whatever order its terms come.
func TestSetInAnyOrder(t *testing.T) {
	orders(nums(7), func(l []api.Term) { wantSet(t, "numbers", l, nums(7)...) })
	orders([]api.Term{text("a"), text("a"), text(""), text("b"), text("b"), text("ab")}, func(l []api.Term) {
		wantSet(t, "texts", l, text(""), text("a"), text("ab"), text("b"))
	})
	orders([]api.Term{truth(0), truth(1), truth(1), truth(1), truth(0)}, func(l []api.Term) { wantSet(t, "truths", l, truth(0), truth(1)) })
	for turn := range api.MaxSet {
		l := nums(api.MaxSet)
		wantSet(t, "turned", append(l[turn:], nums(turn)...), nums(api.MaxSet)...)
	}
}

// P7.4: what Set tells may be, is fixed, holds just what came, and is its own set.
func TestSetMayBe(t *testing.T) {
	all := fixed()
	for i := range all {
		for k := i; k <= len(all) && k-i <= api.MaxSet; k++ {
			l := all[i:k]
			s, e := term.Set(l)
			if e != api.OK {
				continue
			}
			wantMay(t, true, true, s)
			wantSet(t, "again", s.L, s.L...)
			for n, x := range all {
				if got := term.Has(s, x); got != (n >= i && n < k) {
					t.Errorf("%v has %v: got %v", s, x, got)
				}
			}
		}
	}
}

// P7.3: what is in a set.
func TestHas(t *testing.T) {
	l := []api.Term{num(1), num(3), num(5)}
	for n := range int64(8) {
		if got := term.Has(set(l...), num(n)); got != (n == 1 || n == 3 || n == 5) {
			t.Errorf("%d: got %v", n, got)
		}
	}
	for _, wrong := range []api.Term{{}, text("1"), date(1), truth(1), raw("\x01"), set(), set(num(1)), set(l...), {Kind: api.TInt, N: 1, S: "a"}, {Kind: api.TInt, N: 1, L: nums(1)}} {
		if term.Has(set(l...), wrong) {
			t.Errorf("%v is not in it", wrong)
		}
	}
	for _, x := range fixed() {
		if term.Has(set(), x) || !term.Has(set(x), x) {
			t.Errorf("%v: in nothing, or not in itself alone", x)
		}
	}
}

// P7.3: a set is whatever has that kind, in order or not, of one kind or more, of many.
func TestHasOfAnySet(t *testing.T) {
	l := []api.Term{num(5), text("a"), num(1), variable("x"), num(1), set(num(2), num(1)), {}, {Kind: 9}}
	for _, s := range []api.Term{set(l...), {Kind: api.TSet, N: 1, S: "a", L: l}} {
		for _, x := range l {
			if !term.Has(s, x) {
				t.Errorf("%v is in it", x)
			}
		}
		if term.Has(s, num(2)) || term.Has(s, set()) || term.Has(s, set(num(1), num(2))) {
			t.Error("what is not in it")
		}
	}
	if many := set(nums(1000)...); !term.Has(many, num(999)) || !term.Has(many, num(0)) || term.Has(many, num(1000)) {
		t.Error("many")
	}
}

// P7.3: what is no set has nothing.
func TestHasOfNoSet(t *testing.T) {
	for kind := -1; kind < 10; kind++ {
		if kind != api.TSet && (term.Has(api.Term{Kind: kind, L: nums(3)}, num(1)) || term.Has(api.Term{Kind: kind, N: 1}, num(1))) {
			t.Errorf("kind %d", kind)
		}
	}
	for _, x := range fixed() {
		if x.Kind != api.TSet && term.Has(x, x) {
			t.Errorf("%v is no set", x)
		}
	}
}

// P7.3, R3: Same is asked, to its depth, of each term; a set that holds itself comes to an end.
func TestHasOfLists(t *testing.T) {
	for lists := range 8 {
		if got := term.Has(set(within(lists, num(1))), within(lists, num(2))); got != (lists > 3) {
			t.Errorf("%d lists: got %v", lists, got)
		}
	}
	if own := itself(); !term.Has(own, own) || term.Has(own, num(1)) || term.Has(own, set()) {
		t.Error("a set that holds itself")
	}
}

// R2: what is handed in stays, and so does what lies behind it.
func TestGivenStays(t *testing.T) {
	whole := []api.Term{num(3), num(1), num(3), num(0), text("a"), {}, num(-5)}
	before := slices.Clone(whole)
	wantSet(t, "a part", whole[:4], num(0), num(1), num(3))
	s := api.Term{Kind: api.TSet, L: whole[:4]}
	term.May(s)
	term.Fixed(s)
	term.Has(s, num(9))
	term.Compare(s, s)
	term.Same(s, api.Term{Kind: api.TSet, L: whole[1:3]})
	wantNoSet(t, "all", whole...)
	if !slices.EqualFunc(whole, before, alike) {
		t.Errorf("got %v", whole)
	}
}

// R2: what is told is the caller's own, even where a list is empty but has room.
func TestToldIsNew(t *testing.T) {
	room := nums(4)
	l := []api.Term{{Kind: api.TText, S: "b", L: room[:0]}, {Kind: api.TText, S: "a", L: room[:0]}, {Kind: api.TText, S: "b", L: room[1:1]}}
	first, _ := term.Set(l)
	second, _ := term.Set(l)
	for i := range first.L {
		_ = append(first.L[i].L, num(7), num(8))
		first.L[i] = num(9)
	}
	_ = append(first.L, num(9))
	if !alike(second, set(text("a"), text("b"))) || !slices.EqualFunc(room, nums(4), alike) || l[0].S != "b" {
		t.Errorf("got %v, %v, %v", second, room, l)
	}
	l[0], l[1] = num(9), num(9)
	if !alike(second, set(text("a"), text("b"))) {
		t.Errorf("kept what was handed in: %v", second)
	}
}
