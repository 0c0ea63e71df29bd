package match

import (
	"viaticum/api"
	"viaticum/regex"
)

// run goes all ways through a program side by side, from place to place of a text, so that each step is gone through at most once at each place.
type run struct {
	program []regex.Inst
	text    string
	at      int    // the place: so many bytes are behind
	here    *steps // where ways stand at this place
	before  *steps // where they stood at the one before
}

func newRun(pattern, text string) (*run, api.Errno) {
	if len(text) > api.MaxText {
		return nil, api.ErrArg
	}
	program, e := regex.Compile(pattern)
	if e != api.OK {
		return nil, e
	}
	many := len(program)
	return &run{program: program, text: text, here: newSteps(many), before: newSteps(many)}, api.OK
}

// begin lets a way begin at this place.
func (r *run) begin() {
	r.reach(0)
}

// isDone tells whether a way ends at this place.
func (r *run) isDone() bool {
	return r.here.isIn[len(r.program)-1]
}

// read goes on behind the next byte with the ways that take it, and tells false where there is none.
func (r *run) read() bool {
	if r.at == len(r.text) {
		return false
	}
	c := r.text[r.at]
	r.at++
	r.here, r.before = r.before, r.here
	r.here.removeAll()
	for _, step := range r.before.list {
		if takes(r.program[step], c) {
			r.reach(step + 1)
		}
	}
	return true
}

// reach adds a step, and all those to which it leads without a byte.
func (r *run) reach(step int) {
	first := len(r.here.list)
	r.here.add(step)
	// What is added on the way stands further behind, and so has its turn.
	for i := first; i < len(r.here.list); i++ {
		r.follow(r.here.list[i])
	}
}

// follow adds the steps to which one leads at once without a byte.
func (r *run) follow(step int) {
	switch x := r.program[step]; x.Kind {
	case regex.Split:
		r.here.add(x.X)
		r.here.add(x.Y)
	case regex.Jump:
		r.here.add(x.X)
	case regex.First:
		if r.at == 0 {
			r.here.add(step + 1)
		}
	case regex.Last:
		if r.at == len(r.text) {
			r.here.add(step + 1)
		}
	}
}

// takes tells whether a step is one that takes this byte.
func takes(x regex.Inst, c byte) bool {
	return x.Kind == regex.Char && x.Set[c/64]>>(c%64)&1 == 1
}
