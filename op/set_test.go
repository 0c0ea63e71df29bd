package op_test

import (
	"testing"

	"viaticum/api"
)

// chosen is the set of those numbers whose bit is set.
func chosen(bits int) api.Term {
	var l []api.Term
	for i := range 20 {
		if bits>>i&1 == 1 {
			l = append(l, num(int64(i)-3))
		}
	}
	return set(l...)
}

// P11.3: all sets of 5 numbers, each with each: what is in both, in either, whether all of one are in the other, and whether it is the same.
func TestSets(t *testing.T) {
	for a := range 32 {
		for b := range 32 {
			wantBinary(t, api.BMeet, chosen(a), chosen(b), chosen(a&b))
			wantBinary(t, api.BJoin, chosen(a), chosen(b), chosen(a|b))
			wantIs(t, api.BContains, chosen(a), chosen(b), a&b == b)
			wantIs(t, api.BSame, chosen(a), chosen(b), a == b)
			wantIs(t, api.BOther, chosen(a), chosen(b), a != b)
		}
	}
}

// P11.3: sets of each kind that have nothing, something, all in common.
func TestSetsOfKinds(t *testing.T) {
	for _, l := range [][3]api.Term{
		{num(least), num(0), num(most)}, {text(""), text("a"), text("ab")}, {date(0), date(1), date(253402300799)}, {raw(""), raw("\x00"), raw("\xff")},
	} {
		low, high, all := set(l[0], l[1]), set(l[1], l[2]), set(l[:]...)
		wantBinary(t, api.BMeet, low, high, set(l[1]))
		wantBinary(t, api.BMeet, high, low, set(l[1]))
		wantBinary(t, api.BMeet, low, set(l[2]), set())
		wantBinary(t, api.BMeet, all, all, all)
		wantBinary(t, api.BJoin, low, high, all)
		wantBinary(t, api.BJoin, high, low, all)
		wantBinary(t, api.BJoin, set(l[2]), low, all)
		wantBinary(t, api.BJoin, all, all, all)
		wantBinary(t, api.BJoin, set(), low, low)
		wantBinary(t, api.BJoin, high, set(), high)
		wantIs(t, api.BContains, all, low, true)
		wantIs(t, api.BContains, low, all, false)
		wantIs(t, api.BContains, low, high, false)
		wantIs(t, api.BContains, low, low, true)
		wantIs(t, api.BContains, low, set(), true)
		wantIs(t, api.BContains, set(), low, false)
		wantIs(t, api.BContains, low, l[0], true)
		wantIs(t, api.BContains, low, l[2], false)
		wantIs(t, api.BSame, low, set(l[0], l[1]), true)
		wantIs(t, api.BSame, low, high, false)
	}
	wantBinary(t, api.BJoin, set(truth(true)), set(truth(false)), set(truth(false), truth(true)))
	wantBinary(t, api.BMeet, set(truth(true)), set(truth(false)), set())
}

// P11.3: empty sets.
func TestEmptySets(t *testing.T) {
	for _, empty := range []api.Term{{Kind: api.TSet}, set([]api.Term{}...), {Kind: api.TSet, L: make([]api.Term, 0, 4)}} {
		wantBinary(t, api.BMeet, empty, set(), set())
		wantBinary(t, api.BJoin, empty, set(), set())
		wantBinary(t, api.BMeet, empty, from(0, 16), set())
		wantBinary(t, api.BMeet, from(0, 16), empty, set())
		wantBinary(t, api.BJoin, empty, from(0, 16), from(0, 16))
		wantBinary(t, api.BJoin, from(0, 16), empty, from(0, 16))
		wantIs(t, api.BContains, empty, set(), true)
		wantIs(t, api.BContains, set(), empty, true)
		wantIs(t, api.BContains, set(num(1)), empty, true)
		wantIs(t, api.BContains, empty, set(num(1)), false)
		wantIs(t, api.BSame, empty, set(), true)
		wantIs(t, api.BOther, empty, set(num(1)), true)
		for _, x := range []api.Term{num(0), text(""), date(0), raw(""), truth(false)} {
			wantIs(t, api.BContains, empty, x, false)
			wantIs(t, api.BContains, set(x), empty, true)
		}
	}
}

// P11.3: whether a term is in a set; one of another kind is not, though all else be the same.
func TestSetHas(t *testing.T) {
	for n := int64(-1); n < 18; n++ {
		wantIs(t, api.BContains, from(0, 16), num(n), n >= 0 && n < 16)
		wantIs(t, api.BContains, set(num(2), num(5)), num(n), n == 2 || n == 5)
	}
	l := []api.Term{num(1), date(1), truth(true), text("a"), raw("a"), num(0), date(0), truth(false), text(""), raw("")}
	for i, a := range l {
		for k, b := range l {
			wantIs(t, api.BContains, set(a), b, i == k)
			wantIs(t, api.BContains, set(a), set(b), i == k)
			wantIs(t, api.BSame, set(a), set(b), i == k)
		}
	}
	wantNoBinary(t, api.BContains, num(1), set(num(1)), api.ErrType)
}

// P11.3: sets of unlike Kinds have nothing in common, and no set of either.
func TestUnlikeSets(t *testing.T) {
	sets := []api.Term{set(num(1)), set(date(1)), set(truth(true)), set(text("a")), set(raw("a"))}
	for i, a := range sets {
		for k, b := range sets {
			if i == k {
				continue
			}
			wantBinary(t, api.BMeet, a, b, set())
			wantNoBinary(t, api.BJoin, a, b, api.ErrType)
			wantIs(t, api.BContains, a, b, false)
			wantIs(t, api.BOther, a, b, true)
		}
	}
	wantNoBinary(t, api.BJoin, from(0, 3), set(date(0), date(1), date(2)), api.ErrType)
}

// P11.3: as many terms as there is room for, and one more.
func TestJoinLengths(t *testing.T) {
	for many := range api.MaxSet + 1 {
		for more := range api.MaxSet + 1 {
			for _, shared := range []int{0, 1, min(many, more)} {
				if shared > min(many, more) {
					continue
				}
				a, b := from(0, many), from(int64(many-shared), more)
				together := many + more - shared
				if together > api.MaxSet {
					wantNoBinary(t, api.BJoin, a, b, api.ErrSize)
					wantNoBinary(t, api.BJoin, b, a, api.ErrSize)
					continue
				}
				wantBinary(t, api.BJoin, a, b, from(0, together))
				wantBinary(t, api.BJoin, b, a, from(0, together))
			}
		}
	}
}

// P11.3: ErrType is told ahead of ErrSize.
func TestJoinUnlikeAndLong(t *testing.T) {
	var dates []api.Term
	for i := range int64(16) {
		dates = append(dates, date(i))
	}
	wantNoBinary(t, api.BJoin, from(0, 16), set(dates...), api.ErrType)
	wantNoBinary(t, api.BJoin, set(dates...), from(0, 16), api.ErrType)
	wantNoBinary(t, api.BJoin, from(0, 16), set(text("a")), api.ErrType)
	wantNoBinary(t, api.BJoin, set(text("a")), from(0, 16), api.ErrType)
	wantBinary(t, api.BMeet, from(0, 16), set(dates...), set())
	wantBinary(t, api.BMeet, from(0, 16), from(0, 16), from(0, 16))
	wantBinary(t, api.BMeet, from(0, 16), from(15, 16), from(15, 1))
}

// P11.3: a set in a set is none that may be.
func TestSetInSet(t *testing.T) {
	inner := set(num(1))
	for _, code := range []int{api.BContains, api.BMeet, api.BJoin, api.BSame, api.BOther} {
		wantNoBinary(t, code, set(inner), inner, api.ErrArg)
		wantNoBinary(t, code, inner, set(inner), api.ErrArg)
		wantNoBinary(t, code, set(inner), set(inner), api.ErrArg)
		wantNoBinary(t, code, set(set()), set(), api.ErrArg)
	}
}

// P11.3: truths held same or other, and no more.
func TestTruths(t *testing.T) {
	for _, a := range []bool{false, true} {
		for _, b := range []bool{false, true} {
			wantIs(t, api.BSame, truth(a), truth(b), a == b)
			wantIs(t, api.BOther, truth(a), truth(b), a != b)
			wantNoBinary(t, api.BLess, truth(a), truth(b), api.ErrType)
			wantNoBinary(t, api.BAndBits, truth(a), truth(b), api.ErrType)
		}
	}
}
