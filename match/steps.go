package match

// steps is a set of a program's steps.
type steps struct {
	list []int  // each once, as they came
	isIn []bool // by step
}

func newSteps(many int) *steps {
	return &steps{list: make([]int, 0, many), isIn: make([]bool, many)}
}

// add puts a step behind the others, unless it is there.
func (s *steps) add(step int) {
	if s.isIn[step] {
		return
	}
	s.isIn[step] = true
	s.list = append(s.list, step)
}

func (s *steps) removeAll() {
	s.list = s.list[:0]
	clear(s.isIn)
}
