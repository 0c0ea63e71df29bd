package expr_test

import (
	"math/rand"
	"slices"
	"testing"

	"viaticum/api"
	"viaticum/expr"
	"viaticum/op"
	"viaticum/term"
)

// tree is an expression as it is written: an operation, and its sides.
type tree struct {
	op    api.Op
	sides []*tree
}

// grow is a tree of so many operations, drawn by lot.
func grow(lot *rand.Rand, ops int) *tree {
	if ops == 1 {
		return &tree{op: leaf(lot)}
	}
	if ops == 2 || lot.Intn(5) == 0 {
		return &tree{op: one(1 + lot.Intn(3)), sides: []*tree{grow(lot, ops-1)}}
	}
	left := 1 + lot.Intn(ops-2)
	sides := []*tree{grow(lot, left), grow(lot, ops-1-left)}
	switch lot.Intn(5) {
	case 0:
		return &tree{op: and(ops - 1 - left), sides: sides}
	case 1:
		return &tree{op: or(ops - 1 - left), sides: sides}
	}
	// Those that tell truths, and those that go together, more often than all others.
	often := []int{api.BLess, api.BSame, api.BOther, api.BAdd, api.BSub, api.BDiv, api.BContains, api.BJoin}
	code := 1 + lot.Intn(api.BXorBits)
	if lot.Intn(2) == 0 {
		code = often[lot.Intn(len(often))]
	}
	return &tree{op: two(code), sides: sides}
}

func leaf(lot *rand.Rand) api.Op {
	l := []api.Term{truth(false), truth(true), truth(false), truth(true), variable("t"), variable("f"), num(0), num(1), num(2), num(most), variable("n"), text("a"), text("ab"), variable("s"), set(num(1), num(2)), variable("l"), date(1), raw("a"), variable("z")}
	return put(l[lot.Intn(len(l))])
}

// bound by name are a truth, an untruth, a set, a number and a text; z is bound to nothing.
func boundByName() api.Bind {
	return bind("f", truth(false), "l", set(num(2), num(3)), "n", num(7), "s", text("b"), "t", truth(true))
}

// row is the tree's operations in the order in which they are done.
func (x *tree) row() []api.Op {
	switch x.op.Kind {
	case api.OTerm:
		return []api.Op{x.op}
	case api.OUnary:
		return append(x.sides[0].row(), x.op)
	case api.OBinary:
		return append(append(x.sides[0].row(), x.sides[1].row()...), x.op)
	}
	return append(append(x.sides[0].row(), x.op), x.sides[1].row()...)
}

// value is what the tree comes to: side by side, with no stack.
func (x *tree) value(b api.Bind) (api.Term, api.Errno) {
	if x.op.Kind == api.OTerm {
		if x.op.Term.Kind != api.TVar {
			return x.op.Term, api.OK
		}
		i := slices.Index(b.Names, x.op.Term.S)
		if i < 0 {
			return api.Term{}, api.ErrName
		}
		return b.Terms[i], api.OK
	}
	left, e := x.sides[0].value(b)
	if e != api.OK {
		return api.Term{}, e
	}
	switch x.op.Kind {
	case api.OUnary:
		return op.Unary(x.op.Code, left)
	case api.OBinary:
		right, e := x.sides[1].value(b)
		if e != api.OK {
			return api.Term{}, e
		}
		return op.Binary(x.op.Code, left, right)
	}
	if left.Kind != api.TBool {
		return api.Term{}, api.ErrType
	}
	if (left.N == 1) == (x.op.Kind == api.OOr) {
		return left, api.OK
	}
	return x.sides[1].value(b)
}

// P12.1, P12.3: expressions drawn by lot come to what they do as trees.
func TestAsTrees(t *testing.T) {
	lot, b := rand.New(rand.NewSource(12)), boundByName()
	met := map[api.Errno]int{}
	for range 60000 {
		x := grow(lot, 1+lot.Intn(32))
		e := after(x.row())
		if !expr.May(e) {
			t.Fatalf("%s: may be", brief(e))
		}
		want, f := x.value(b)
		met[f]++
		if f == api.OK {
			wantEval(t, e, b, want)
		} else {
			wantNone(t, e, b, f)
		}
	}
	for _, e := range []api.Errno{api.OK, api.ErrName, api.ErrType, api.ErrZero, api.ErrOver} {
		if met[e] < 10 {
			t.Errorf("%d was met %d times", e, met[e])
		}
	}
}

// R3, R4, P12.4: whatever comes, each call ends, and tells nothing beside an error, and what may be if there is none.
func FuzzExpr(f *testing.F) {
	f.Add([]byte{0, 1, 0, 2, 2, 7}, "x", int64(1))
	f.Add([]byte{0, 0, 3, 1, 0, 9, 1, 1}, "a", int64(2))
	f.Add([]byte{0, 1, 4, 3, 0, 2, 0, 3, 2, 10}, "z9", int64(3))
	f.Add([]byte{5, 0, 5, 0, 2, 16}, "hex:", int64(4))
	f.Fuzz(func(t *testing.T, l []byte, s string, number int64) {
		e, b := made(l, s, number), bind(s, num(number))
		got, x := expr.Eval(e, b)
		if x == api.OK && !term.Fixed(got) || x != api.OK && !alike(got, api.Term{}) || (x == api.ErrArg) == (expr.May(e) && expr.MayBind(b)) {
			t.Errorf("Eval(%s): got %s, %d", brief(e), brief(got), x)
		}
		isTrue, y := expr.True(e, b)
		if x != api.OK && (isTrue || y != x) || x == api.OK && isTrue != (got.Kind == api.TBool && got.N == 1) {
			t.Errorf("True(%s): got %v, %d", brief(e), isTrue, y)
		}
		for _, name := range expr.Names(e) {
			if name != s {
				t.Errorf("Names(%s): %q", brief(e), name)
			}
		}
		if bound, ok := expr.Look(b, s); ok != term.Name(s) || ok && bound.N != number {
			t.Errorf("Look(%q): got %s, %v", s, brief(bound), ok)
		}
	})
}

// made are operations of these bytes, two each: a kind, and what it has.
func made(l []byte, s string, number int64) api.Expr {
	var ops []api.Op
	for i := 0; i+1 < len(l); i += 2 {
		has := int(int8(l[i+1]))
		switch l[i] % 8 {
		case 0:
			ops = append(ops, put(api.Term{Kind: has, N: number}))
		case 1:
			ops = append(ops, one(has))
		case 2:
			ops = append(ops, two(has))
		case 3:
			ops = append(ops, and(has))
		case 4:
			ops = append(ops, or(has))
		case 5:
			ops = append(ops, name(s))
		case 6:
			ops = append(ops, put(set(num(number), num(int64(has)))))
		default:
			ops = append(ops, api.Op{Kind: has, Code: 1, Skip: int(number)})
		}
	}
	return api.Expr{Ops: ops}
}
