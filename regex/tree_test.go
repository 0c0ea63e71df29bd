package regex_test

import (
	"math/rand"
	"regexp"
	"strings"
	"testing"

	"viaticum/api"
	"viaticum/regex"
)

// node is a pattern as a tree: what it is written as, and the steps that the chapter gives it, each put in its place.
type node struct {
	form  string // "one", "edge", "group", "*", "+", "?", "row", "|"
	text  string
	step  regex.Inst
	parts []*node
}

func (n *node) write() string {
	var texts []string
	for _, part := range n.parts {
		texts = append(texts, part.write())
	}
	switch n.form {
	case "one", "edge":
		return n.text
	case "group":
		return "(" + texts[0] + ")"
	case "row":
		return strings.Join(texts, "")
	case "|":
		return strings.Join(texts, "|")
	}
	return texts[0] + n.form
}

// put lays the steps behind those that are there; what leads ahead is filled in when it is known.
func (n *node) put(l []regex.Inst) []regex.Inst {
	begin := len(l)
	switch n.form {
	case "one", "edge":
		return append(l, n.step)
	case "group", "row":
		for _, part := range n.parts {
			l = part.put(l)
		}
		return l
	case "*":
		l = n.parts[0].put(append(l, split(begin+1, 0)))
		l = append(l, jump(begin))
		l[begin].Y = len(l)
		return l
	case "+":
		l = n.parts[0].put(l)
		return append(l, split(begin, len(l)+1))
	case "?":
		l = n.parts[0].put(append(l, split(begin+1, 0)))
		l[begin].Y = len(l)
		return l
	}
	if len(n.parts) == 1 {
		return n.parts[0].put(l)
	}
	l = n.parts[0].put(append(l, split(begin+1, 0)))
	leap := len(l)
	l = append(l, jump(0))
	l[begin].Y = len(l)
	l = (&node{form: "|", parts: n.parts[1:]}).put(l)
	l[leap].X = len(l)
	return l
}

// grow makes a tree with at most so many parentheses within one another.
func grow(r *rand.Rand, depth int) *node {
	either := &node{form: "|"}
	for range 1 + max(0, r.Intn(6)-2) {
		row := &node{form: "row"}
		for range r.Intn(4) {
			row.parts = append(row.parts, growPiece(r, depth))
		}
		either.parts = append(either.parts, row)
	}
	return either
}

func growPiece(r *rand.Rand, depth int) *node {
	atom := growAtom(r)
	if depth > 0 && r.Intn(3) == 0 {
		atom = &node{form: "group", parts: []*node{grow(r, depth-1)}}
	}
	if i := r.Intn(6); i < 3 {
		return &node{form: "*+?"[i : i+1], parts: []*node{atom}}
	}
	return atom
}

func growAtom(r *rand.Rand) *node {
	atoms := []*node{
		{form: "one", text: "a", step: char("a")},
		{form: "one", text: "b", step: char("b")},
		{form: "one", text: `\*`, step: char("*")},
		{form: "one", text: `[ab]`, step: char("ab")},
		{form: "one", text: `[b-d*]`, step: char("bcd*")},
		{form: "one", text: `[^a\]]`, step: regex.Inst{Kind: regex.Char, Set: except("a]")}},
		{form: "one", text: ".", step: regex.Inst{Kind: regex.Char, Set: except("")}},
		{form: "edge", text: "^", step: kind(regex.First)},
		{form: "edge", text: "$", step: kind(regex.Last)},
	}
	return atoms[r.Intn(len(atoms))]
}

// eachTree hands patterns on, written and as programs, of which none is too long.
func eachTree(many, depth int, hand func(s string, want []regex.Inst)) {
	r := rand.New(rand.NewSource(9))
	for range many {
		n := grow(r, depth)
		if s := n.write(); len(s) <= api.MaxText {
			hand(s, append(n.put(nil), kind(regex.Done)))
		}
	}
}

// P9.2, P9.3: patterns of all forms within one another have the program that the chapter's words give.
func TestTrees(t *testing.T) {
	eachTree(20000, 4, func(s string, want []regex.Inst) {
		wantProgram(t, s, want)
		wantBounds(t, s, want)
	})
}

// fits goes all ways that the program has for a text, each place once.
func fits(l []regex.Inst, s string) bool {
	seen := map[[2]int]bool{}
	var from func(step, at int) bool
	from = func(step, at int) bool {
		if seen[[2]int{step, at}] {
			return false
		}
		seen[[2]int{step, at}] = true
		switch x := l[step]; x.Kind {
		case regex.Char:
			return at < len(s) && x.Set[s[at]/64]>>(s[at]%64)&1 == 1 && from(step+1, at+1)
		case regex.Split:
			return from(x.X, at) || from(x.Y, at)
		case regex.Jump:
			return from(x.X, at)
		case regex.First:
			return at == 0 && from(step+1, at)
		case regex.Last:
			return at == len(s) && from(step+1, at)
		}
		return at == len(s)
	}
	return from(0, 0)
}

// P9.2: run on whole texts, the programs take just those that Go's own patterns take.
func TestProgramsRun(t *testing.T) {
	texts := []string{"", "a", "b", "c", "*", "]", "aa", "ab", "ba", "ad", "a*", "bab", "abab", "*a]b", "bbbb", "abcd*", "ddddddd"}
	took := 0
	eachTree(3000, 3, func(s string, _ []regex.Inst) {
		l, e := regex.Compile(s)
		if e != api.OK {
			t.Fatalf("%q: %d", s, e)
		}
		whole := regexp.MustCompile(`(?s)\A(?:` + s + `)\z`)
		for _, text := range texts {
			want := whole.MatchString(text)
			if fits(l, text) != want {
				t.Fatalf("%q on %q: want %v", s, text, want)
			}
			if want {
				took++
			}
		}
	})
	if took < 1000 {
		t.Errorf("only %d texts were taken", took)
	}
}
