package match_test

import (
	"math/rand"
	"strings"

	"viaticum/api"
)

// places has bit i for the place behind a text's first i bytes, of at most 63.
type places uint64

// node is a pattern as a tree. What fits it is told without steps: by the places that can lie behind it.
type node struct {
	form  string // "one", "^", "$", "group", "*", "+", "?", "row", "|"
	text  string // of one: as it is written
	takes func(c byte) bool
	parts []*node
}

func (n *node) write() string {
	var texts []string
	for _, part := range n.parts {
		texts = append(texts, part.write())
	}
	switch n.form {
	case "one":
		return n.text
	case "^", "$":
		return n.form
	case "group":
		return "(" + texts[0] + ")"
	case "row":
		return strings.Join(texts, "")
	case "|":
		return strings.Join(texts, "|")
	}
	return texts[0] + n.form
}

// behind tells which places lie behind what fits from one of these places on.
func (n *node) behind(text string, from places) places {
	switch n.form {
	case "one":
		var to places
		for i := range len(text) {
			if from>>i&1 == 1 && n.takes(text[i]) {
				to |= 1 << (i + 1)
			}
		}
		return to
	case "^":
		return from & 1
	case "$":
		return from & (1 << len(text))
	case "|":
		var to places
		for _, part := range n.parts {
			to |= part.behind(text, from)
		}
		return to
	case "?":
		return from | n.parts[0].behind(text, from)
	case "*":
		return n.often(text, from)
	case "+":
		return n.often(text, n.parts[0].behind(text, from))
	}
	for _, part := range n.parts {
		from = part.behind(text, from)
	}
	return from
}

// often lets the part fit on and on, till no further place comes of it.
func (n *node) often(text string, from places) places {
	for {
		to := from | n.parts[0].behind(text, from)
		if to == from {
			return to
		}
		from = to
	}
}

func (n *node) whole(text string) bool {
	return n.behind(text, 1)>>len(text)&1 == 1
}

func (n *node) find(text string) bool {
	return n.behind(text, 1<<(len(text)+1)-1) != 0
}

// grower makes trees.
type grower struct {
	r     *rand.Rand
	edges bool // with ^ and $
}

// tree makes one with at most so many parentheses within one another.
func (g grower) tree(depth int) *node {
	either := &node{form: "|"}
	for range 1 + max(0, g.r.Intn(6)-3) {
		row := &node{form: "row"}
		for range g.r.Intn(4) {
			row.parts = append(row.parts, g.piece(depth))
		}
		either.parts = append(either.parts, row)
	}
	return either
}

func (g grower) piece(depth int) *node {
	atom := g.atom()
	if depth > 0 && g.r.Intn(3) == 0 {
		atom = &node{form: "group", parts: []*node{g.tree(depth - 1)}}
	}
	if i := g.r.Intn(6); i < 3 {
		return &node{form: "*+?"[i : i+1], parts: []*node{atom}}
	}
	return atom
}

func (g grower) atom() *node {
	atoms := []*node{
		{form: "one", text: "a", takes: func(c byte) bool { return c == 'a' }},
		{form: "one", text: "a", takes: func(c byte) bool { return c == 'a' }},
		{form: "one", text: "b", takes: func(c byte) bool { return c == 'b' }},
		{form: "one", text: `\*`, takes: func(c byte) bool { return c == '*' }},
		{form: "one", text: ".", takes: func(c byte) bool { return true }},
		{form: "one", text: "[ab]", takes: func(c byte) bool { return c == 'a' || c == 'b' }},
		{form: "one", text: `[^a\]]`, takes: func(c byte) bool { return c != 'a' && c != ']' }},
		{form: "one", text: "\xff", takes: func(c byte) bool { return c == 255 }},
		{form: "one", text: "[\x7f-\xfe]", takes: func(c byte) bool { return c >= 127 && c < 255 }},
		{form: "one", text: "\x00", takes: func(c byte) bool { return c == 0 }},
		{form: "^"},
		{form: "$"},
	}
	if !g.edges {
		atoms = atoms[:10]
	}
	return atoms[g.r.Intn(len(atoms))]
}

// randomText is of at most so many of these bytes.
func randomText(r *rand.Rand, bytes string, most int) string {
	var s []byte
	for range r.Intn(most + 1) {
		s = append(s, bytes[r.Intn(len(bytes))])
	}
	return string(s)
}

// eachTree hands trees on, as patterns, too, none of them too long to stand between ^( and )$, and with texts.
func eachTree(many int, seed int64, edges bool, hand func(n *node, pattern string, texts []string)) {
	g := grower{rand.New(rand.NewSource(seed)), edges}
	for range many {
		n := g.tree(3)
		pattern := n.write()
		if len(pattern) > api.MaxText-len("^()$") {
			continue
		}
		texts := []string{"", "a", "b", "ab"}
		for range 8 {
			texts = append(texts, randomText(g.r, "aaabb*\x00\x80\xff\n", 12))
		}
		hand(n, pattern, texts)
	}
}
