package rule_test

import (
	"reflect"
	"testing"

	"viaticum/api"
	"viaticum/rule"
)

// places calls do once for each way in which one place within v may be otherwise; what do sees is put back.
func places(v reflect.Value, path string, do func(path string)) {
	switch v.Kind() {
	case reflect.Struct:
		for i := range v.NumField() {
			places(v.Field(i), path+"."+v.Type().Field(i).Name, do)
		}
	case reflect.Slice:
		placesOfList(v, path, do)
	case reflect.String:
		with(v, reflect.ValueOf(v.String()+"x"), path+": longer", do)
		with(v, reflect.ValueOf("\x00"), path+": another", do)
	case reflect.Int, reflect.Int64:
		with(v, reflect.ValueOf(v.Int()+1).Convert(v.Type()), path+": more", do)
		with(v, reflect.ValueOf(^v.Int()).Convert(v.Type()), path+": turned", do)
	case reflect.Bool:
		with(v, reflect.ValueOf(!v.Bool()), path+": not", do)
	}
}

func placesOfList(v reflect.Value, path string, do func(path string)) {
	n := v.Len()
	one := reflect.Zero(v.Type().Elem())
	with(v, reflect.Append(v.Slice3(0, n, n), one), path+": one more", do)
	if n > 0 {
		with(v, v.Slice(0, n-1), path+": without the last", do)
		with(v, v.Slice(1, n), path+": without the first", do)
		with(v, reflect.Append(v.Slice3(0, n, n), v.Index(n-1)), path+": the last twice", do)
	}
	for i := range n {
		places(v.Index(i), path+"["+string(rune('0'+i))+"]", do)
		for k := range i {
			swap := reflect.Swapper(v.Interface())
			swap(i, k)
			do(path + ": in another order")
			swap(i, k)
		}
	}
}

func with(v, other reflect.Value, path string, do func(path string)) {
	kept := reflect.New(v.Type()).Elem()
	kept.Set(v)
	v.Set(other)
	do(path)
	v.Set(kept)
}

// P14.3: alike in all but one place, for each place that there is.
func TestSame(t *testing.T) {
	a, b := block(), block()
	if !rule.Same(a, b) || !rule.Same(a, a) || !rule.Same(api.Block{}, api.Block{}) {
		t.Error("alike")
	}
	seen := 0
	places(reflect.ValueOf(&b).Elem(), "", func(path string) {
		seen++
		if rule.Same(a, b) || rule.Same(b, a) || !rule.Same(b, b) {
			t.Error(path)
		}
	})
	if seen < 300 || !rule.Same(a, b) {
		t.Errorf("%d places", seen)
	}
}

// P14.3: likewise of policies.
func TestSamePolicy(t *testing.T) {
	a, b := policy(), policy()
	if !rule.SamePolicy(a, b) || !rule.SamePolicy(a, a) || !rule.SamePolicy(api.Policy{}, api.Policy{}) {
		t.Error("alike")
	}
	seen := 0
	places(reflect.ValueOf(&b).Elem(), "", func(path string) {
		seen++
		if rule.SamePolicy(a, b) || rule.SamePolicy(b, a) || !rule.SamePolicy(b, b) {
			t.Error(path)
		}
	})
	if seen < 100 || !rule.SamePolicy(a, b) {
		t.Errorf("%d places", seen)
	}
}

// P14.3: what is within a part is not what is behind it.
func TestSameFromPartToPart(t *testing.T) {
	p, q := pred("p"), pred("q")
	for i, x := range [][2]api.Block{
		{{Rules: []api.Rule{ask(p, q)}}, {Rules: []api.Rule{ask(p), ask(q)}}},
		{{Checks: []api.Check{{Queries: []api.Rule{ask(p), ask(q)}}}}, {Checks: []api.Check{{Queries: []api.Rule{ask(p)}}, {Queries: []api.Rule{ask(q)}}}}},
		{{Rules: []api.Rule{ask(p)}}, {Checks: []api.Check{{Queries: []api.Rule{ask(p)}}}}},
		{{Rules: []api.Rule{{Head: p}}}, {Rules: []api.Rule{ask(p)}}},
		{{Rules: []api.Rule{{Scopes: []api.Scope{key(32)}}}}, {Rules: []api.Rule{{}}, Scopes: []api.Scope{key(32)}}},
		{{Rules: []api.Rule{{Exprs: exprs(same(num(1), num(2)))}}}, {Rules: []api.Rule{{Exprs: exprs(alone(num(1)), alone(num(2)), api.Expr{Ops: []api.Op{two(api.BSame)}})}}}},
		{{Facts: body(p, q)}, {Facts: body(p)}},
		{{Facts: body(p)}, {}},
	} {
		if rule.Same(x[0], x[1]) || rule.Same(x[1], x[0]) {
			t.Error(i)
		}
	}
}

// R2: nil and empty lists are one.
func TestSameOfEmptyLists(t *testing.T) {
	bare := api.Block{
		Facts:  body(pred("p"), pred("p", set())),
		Rules:  []api.Rule{{}, {Exprs: []api.Expr{{}}}, {Exprs: exprs(alone(set()))}},
		Checks: []api.Check{{}, {Queries: []api.Rule{{}}}},
	}
	full := api.Block{
		Facts: body(api.Pred{Name: "p", Terms: []api.Term{}}, pred("p", api.Term{Kind: api.TSet, L: nums(3)[:0]})),
		Rules: []api.Rule{
			{Head: api.Pred{Terms: nums(3)[:0]}, Body: body(pred("p"))[:0], Exprs: []api.Expr{}, Scopes: []api.Scope{}},
			{Exprs: []api.Expr{{Ops: []api.Op{}}}},
			{Exprs: exprs(alone(api.Term{Kind: api.TSet, L: []api.Term{}}))},
		},
		Checks: []api.Check{{Queries: []api.Rule{}}, {Queries: []api.Rule{{Body: []api.Pred{}}}}},
		Scopes: []api.Scope{},
	}
	if !rule.Same(bare, full) || !rule.Same(full, bare) {
		t.Error("blocks")
	}
	if !rule.Same(api.Block{}, api.Block{Facts: []api.Pred{}, Rules: []api.Rule{}, Checks: []api.Check{}, Scopes: []api.Scope{}}) {
		t.Error("empty blocks")
	}
	if !rule.SamePolicy(api.Policy{}, api.Policy{Queries: []api.Rule{}}) || !rule.SamePolicy(api.Policy{Queries: bare.Rules}, api.Policy{Queries: full.Rules}) {
		t.Error("policies")
	}
}

// P14.3: terms as term.Same, which looks three lists deep; it asks not whether anything may be.
func TestSameOfWhatMayNotBe(t *testing.T) {
	deep := func(lists int, x api.Term) api.Block {
		for range lists {
			x = set(x)
		}
		return api.Block{Facts: body(pred("", x)), Rules: []api.Rule{{Exprs: exprs(alone(x))}}}
	}
	for lists := range 10 {
		if got := rule.Same(deep(lists, num(1)), deep(lists, num(2))); got != (lists > 3) {
			t.Errorf("%d lists: got %v", lists, got)
		}
	}
	a, b := deep(0, itself()), deep(0, itself())
	if !rule.Same(a, b) || rule.Same(a, deep(0, num(1))) {
		t.Error("a set that holds itself")
	}
	wrong := api.Block{Facts: body(pred("true")), Scopes: []api.Scope{{Kind: 9, Key: "k"}}, Checks: []api.Check{{}}}
	if !rule.Same(wrong, wrong) || rule.Same(wrong, api.Block{}) {
		t.Error("what may not be")
	}
}
