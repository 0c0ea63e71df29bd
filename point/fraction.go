package point

import "viaticum/field"

// fraction is the point (x / under, y / under). Sums of fractions need no division, and that is what takes long.
type fraction struct {
	x, y, under field.Elem
}

// fraction tells p with 1 under it.
func (p Point) fraction() fraction {
	return fraction{p.x, p.y(), field.Small(1)}
}

// point tells the point that a is.
func (a fraction) point() Point {
	by := a.under.Inv()
	return at(a.x.Mul(by), a.y.Mul(by))
}

// plus tells a plus b.
//
// The law of the curve holds for any two of its points, for d is no square: what lies under a sum is never 0.
func (a fraction) plus(b fraction) fraction {
	xx, yy := a.x.Mul(b.x), a.y.Mul(b.y)
	crossed := a.x.Mul(b.y).Add(b.x.Mul(a.y))
	under := a.under.Mul(b.under)
	square, bend := under.Mul(under), curveD().Mul(xx).Mul(yy)
	more, less := square.Add(bend), square.Sub(bend)
	return fraction{
		x:     under.Mul(crossed).Mul(less),
		y:     under.Mul(yy.Add(xx)).Mul(more),
		under: more.Mul(less),
	}
}

// times tells a as often as the number of s says, bit by bit from the highest on; each bit picks an operation from the row.
func (a fraction) times(s []byte) fraction {
	row := [2]func(soFar, a fraction) fraction{fraction.twiceAlone, fraction.twicePlus}
	soFar := Zero().fraction()
	for i := 8*len(s) - 1; i >= 0; i-- {
		bit := s[i/8] >> (i % 8) & 1
		soFar = row[bit](soFar, a)
	}
	return soFar
}

// twiceAlone tells a plus a. It is given b because all operations of the row are.
func (a fraction) twiceAlone(b fraction) fraction {
	return a.plus(a)
}

// twicePlus tells a plus a plus b.
func (a fraction) twicePlus(b fraction) fraction {
	return a.plus(a).plus(b)
}
