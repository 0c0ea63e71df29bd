package regex

// Till place is called X and Y tell how far it is from the step itself, so that steps can be moved as they are.

// step is the only one of an atom, or the last one.
func step(kind int) []Inst {
	return []Inst{{Kind: kind}}
}

func char(set byteSet) []Inst {
	return []Inst{{Kind: Char, Set: set}}
}

func split(x, y int) []Inst {
	return []Inst{{Kind: Split, X: x, Y: y}}
}

func jump(x int) []Inst {
	return []Inst{{Kind: Jump, X: x}}
}

// row is the parts one behind the other.
func row(parts ...[]Inst) []Inst {
	var steps []Inst
	for _, part := range parts {
		steps = append(steps, part...)
	}
	return steps
}

// either is a|b.
func either(a, b []Inst) []Inst {
	return row(split(1, len(a)+2), a, jump(len(b)+1), b)
}

// star is a*.
func star(a []Inst) []Inst {
	return row(split(1, len(a)+2), a, jump(-len(a)-1))
}

// plus is a+.
func plus(a []Inst) []Inst {
	return row(a, split(-len(a), 1))
}

// option is a?.
func option(a []Inst) []Inst {
	return row(split(1, len(a)+1), a)
}

// place makes of each distance the step that it leads to.
func place(steps []Inst) []Inst {
	for i := range steps {
		switch steps[i].Kind {
		case Split:
			steps[i].X += i
			steps[i].Y += i
		case Jump:
			steps[i].X += i
		}
	}
	return steps
}
