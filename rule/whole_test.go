package rule_test

import (
	"math/rand"
	"slices"
	"testing"

	"viaticum/api"
	"viaticum/expr"
	"viaticum/rule"
)

// strewn makes rules of few names, many of which may be.
type strewn struct{ *rand.Rand }

func (s strewn) name() string { return string(rune('a' + s.Intn(5))) }

func (s strewn) pred(most int) api.Pred {
	p := pred("p")
	for range s.Intn(most + 1) {
		if s.Intn(4) == 0 {
			p.Terms = append(p.Terms, num(1))
			continue
		}
		p.Terms = append(p.Terms, variable(s.name()))
	}
	return p
}

func (s strewn) expr() api.Expr {
	e := same(variable(s.name()), num(int64(s.Intn(2))))
	if s.Intn(2) == 0 {
		right := same(variable(s.name()), variable(s.name()))
		e.Ops = append(e.Ops, api.Op{Kind: api.OAnd + s.Intn(2), Skip: len(right.Ops)})
		e.Ops = append(e.Ops, right.Ops...)
	}
	return e
}

func (s strewn) rule() api.Rule {
	r := api.Rule{Head: s.pred(3)}
	for range s.Intn(4) {
		r.Body = append(r.Body, s.pred(4))
	}
	for range s.Intn(3) {
		r.Exprs = append(r.Exprs, s.expr())
	}
	return r
}

// names are all the names of r's head, of its body, of its expressions, by a plain count.
func names(r api.Rule) (head, body, exprs map[string]bool) {
	head, body, exprs = map[string]bool{}, map[string]bool{}, map[string]bool{}
	count := func(to map[string]bool, t api.Term) {
		if t.Kind == api.TVar {
			to[t.S] = true
		}
	}
	for _, t := range r.Head.Terms {
		count(head, t)
	}
	for _, p := range r.Body {
		for _, t := range p.Terms {
			count(body, t)
		}
	}
	for _, e := range r.Exprs {
		for _, o := range e.Ops {
			count(exprs, o.Term)
		}
	}
	return head, body, exprs
}

func allIn(some, of map[string]bool) bool {
	for s := range some {
		if !of[s] {
			return false
		}
	}
	return true
}

// answers binds the names of a body to terms.
func answers(s strewn, body []api.Pred) api.Bind {
	b := api.Bind{Names: rule.Names(body)}
	for range b.Names {
		b.Terms = append(b.Terms, num(int64(s.Intn(2))))
	}
	return b
}

// P14.2, against a plain count; P14.4: of what may be, whatever answers the body fills the head, and no expression lacks a name.
func TestEachNameIsBound(t *testing.T) {
	s := strewn{rand.New(rand.NewSource(14))}
	rules, queries := 0, 0
	for range 20000 {
		r := s.rule()
		head, body, exprs := names(r)
		may := len(r.Body) > 0 && allIn(head, body) && allIn(exprs, body)
		want(t, "a rule", rule.May, r, may)
		if may {
			rules++
			wantFilled(t, r, answers(s, r.Body))
		}
		r.Head = api.Pred{}
		may = len(r.Body)+len(r.Exprs) > 0 && allIn(exprs, body)
		want(t, "a query", rule.MayQuery, r, may)
		if may {
			queries++
			wantFilled(t, r, answers(s, r.Body))
		}
	}
	if rules < 1000 || queries < 1000 {
		t.Errorf("%d rules and %d queries that may be", rules, queries)
	}
}

func wantFilled(t *testing.T, r api.Rule, b api.Bind) {
	t.Helper()
	for _, x := range r.Head.Terms {
		if _, ok := expr.Look(b, x.S); x.Kind == api.TVar && !ok {
			t.Errorf("%v: nothing fills %s", r, x.S)
		}
	}
	for _, e := range r.Exprs {
		if _, err := expr.True(e, b); err == api.ErrName || err == api.ErrArg {
			t.Errorf("%v: got %v", r, err)
		}
	}
}

// P14.4: as many names as a body may have.
func TestAsManyNames(t *testing.T) {
	r := api.Rule{Head: pred("p")}
	for i := range api.MaxBody {
		var l []string
		for k := range api.MaxTerms {
			l = append(l, string(rune('a'+i))+string(rune('0'+k)))
		}
		r.Body = append(r.Body, of("q", l...))
		r.Exprs = append(r.Exprs, same(variable(l[0]), variable(l[7])))
		r.Head.Terms = append(r.Head.Terms, variable(l[3]), variable(l[4]))
	}
	wantRule(t, "thirty-two names", r, true, true)
	b := answers(strewn{rand.New(rand.NewSource(1))}, r.Body)
	if len(b.Names) != 32 || !expr.MayBind(b) {
		t.Errorf("%d names", len(b.Names))
	}
	wantFilled(t, r, b)
}

// R2: no argument is changed, and what lies behind a list's length is neither read nor written.
func TestArgumentsStay(t *testing.T) {
	b, p := roomy(block()), roomy(policy())
	blockBefore, policyBefore := whole(b), whole(p)
	if !rule.MayBlock(b) || !rule.MayPolicy(p) || !rule.Same(b, block()) || !rule.Same(block(), b) || !rule.SamePolicy(p, policy()) {
		t.Error("with room")
	}
	for _, r := range b.Rules {
		wantRule(t, "with room", r, true, true)
		rule.Names(r.Body)
	}
	for _, f := range b.Facts {
		wantPred(t, f, true, true)
	}
	for _, c := range b.Checks {
		want(t, "with room", rule.MayCheck, c, true)
	}
	if !slices.Equal(blockBefore, whole(b)) || !slices.Equal(policyBefore, whole(p)) {
		t.Error("something is changed")
	}
}

// R6: what is asked twice is told twice.
func TestAskedTwice(t *testing.T) {
	r := made()
	for range 3 {
		wantRule(t, "asked again", r, true, true)
		want(t, "asked again", rule.May, api.Rule{}, false)
		wantNames(t, r.Body, "x", "y")
	}
}
