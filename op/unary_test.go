package op_test

import (
	"math/big"
	"strings"
	"testing"

	"viaticum/api"
)

// P11.1: of a truth the other one.
func TestNot(t *testing.T) {
	wantUnary(t, api.UNot, truth(true), truth(false))
	wantUnary(t, api.UNot, truth(false), truth(true))
}

// P11.1: of a number what is as far on the other side of 0, if there is room for it.
func TestNegative(t *testing.T) {
	wantUnary(t, api.UNeg, num(0), num(0))
	wantUnary(t, api.UNeg, num(5), num(-5))
	wantUnary(t, api.UNeg, num(most), num(-most))
	wantUnary(t, api.UNeg, num(-most), num(most))
	wantNoUnary(t, api.UNeg, num(least), api.ErrOver)
	for _, a := range numbers() {
		want := new(big.Int).Neg(big.NewInt(a))
		if !want.IsInt64() {
			wantNoUnary(t, api.UNeg, num(a), api.ErrOver)
			continue
		}
		wantUnary(t, api.UNeg, num(a), num(want.Int64()))
	}
}

// P11.1: how many bytes a text, bytes have, how many terms a set.
func TestLength(t *testing.T) {
	for many := range api.MaxText + 1 {
		wantUnary(t, api.ULength, text(long(many)), num(int64(many)))
		wantUnary(t, api.ULength, raw(strings.Repeat("\x00", many)), num(int64(many)))
	}
	wantUnary(t, api.ULength, text("é"), num(2))
	wantUnary(t, api.ULength, text("\xff"), num(1))
	for many := range api.MaxSet + 1 {
		wantUnary(t, api.ULength, from(least, many), num(int64(many)))
	}
	wantUnary(t, api.ULength, set(text(""), text("abc")), num(2))
	wantUnary(t, api.ULength, set(truth(false), truth(true)), num(2))
}

// P11.1: a term of another Kind.
func TestUnaryOfOtherKinds(t *testing.T) {
	may := map[int][]int{api.UNot: {api.TBool}, api.UNeg: {api.TInt}, api.ULength: {api.TText, api.TBytes, api.TSet}}
	for code, kinds := range may {
		for _, a := range fixed() {
			is := false
			for _, kind := range kinds {
				is = is || a.Kind == kind
			}
			if !is {
				wantNoUnary(t, code, a, api.ErrType)
			}
		}
	}
}

// P11.1: codes that there are not, of terms that would do and of others.
func TestNoUnary(t *testing.T) {
	for _, code := range noCodes(api.ULength) {
		for _, a := range append(fixed(), unfixed()...) {
			wantNoUnary(t, code, a, api.ErrArg)
		}
	}
}

// P11.1: terms that are not Fixed, those of another Kind than the code's and of its own among them.
func TestUnaryOfUnfixed(t *testing.T) {
	for code := api.UNot; code <= api.ULength; code++ {
		for _, a := range unfixed() {
			wantNoUnary(t, code, a, api.ErrArg)
		}
	}
}
