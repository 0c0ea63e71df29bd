package op

import (
	"math"

	"viaticum/api"
)

// The bounds are asked ahead of each sum and product, so that none goes round.

func negative(a int64) (int64, api.Errno) {
	if a == math.MinInt64 {
		return 0, api.ErrOver
	}
	return -a, api.OK
}

func sum(a, b int64) (int64, api.Errno) {
	if b > 0 && a > math.MaxInt64-b || b < 0 && a < math.MinInt64-b {
		return 0, api.ErrOver
	}
	return a + b, api.OK
}

func difference(a, b int64) (int64, api.Errno) {
	if b > 0 && a < math.MinInt64+b || b < 0 && a > math.MaxInt64+b {
		return 0, api.ErrOver
	}
	return a - b, api.OK
}

func product(a, b int64) (int64, api.Errno) {
	if b == 0 {
		return 0, api.OK
	}
	// Apart, for -2^63 by -1, the bound below, goes round itself.
	if b == -1 {
		return negative(a)
	}
	least, most := math.MinInt64/b, math.MaxInt64/b
	if b < 0 {
		least, most = most, least
	}
	if a < least || a > most {
		return 0, api.ErrOver
	}
	return a * b, api.OK
}

// quotient rounds towards 0.
func quotient(a, b int64) (int64, api.Errno) {
	if b == 0 {
		return 0, api.ErrZero
	}
	if b == -1 {
		return negative(a)
	}
	return a / b, api.OK
}
