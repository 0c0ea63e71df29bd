package match

import (
	"strings"
	"testing"

	"viaticum/api"
)

// P10.2: at each place a step is gone through once at most, so all in all there are no more than the text's places, times the program's steps.
func TestStepsOfRun(t *testing.T) {
	text := strings.Repeat("a", api.MaxText)
	for _, pattern := range []string{"", "a*", "(a*)*b", "(()*)*", "(a|a)*(a|a)*b", strings.Repeat("(a?)*", 51), strings.Repeat("a*|", 85), strings.Repeat("^*|$?", 50), "^*(a*)*$*b"} {
		r, e := newRun(pattern, text)
		if e != api.OK {
			t.Fatalf("%q: %d", pattern, e)
		}
		places := 0
		for isMore := true; isMore; isMore = r.read() {
			r.begin()
			wantOnce(t, pattern, r.here)
			places++
		}
		if places != len(text)+1 {
			t.Errorf("%q: %d places", pattern, places)
		}
	}
}

// wantOnce fails unless the list has each step of the set once.
func wantOnce(t *testing.T, pattern string, s *steps) {
	t.Helper()
	seen := make([]bool, len(s.isIn))
	for _, step := range s.list {
		if seen[step] || !s.isIn[step] {
			t.Fatalf("%q: %v", pattern, s.list)
		}
		seen[step] = true
	}
	for step, isIn := range s.isIn {
		if isIn != seen[step] {
			t.Fatalf("%q: step %d: %v", pattern, step, s.list)
		}
	}
}

// A set of steps has each once, and none behind removeAll.
func TestSteps(t *testing.T) {
	s := newSteps(3)
	for range 2 {
		for _, step := range []int{2, 0, 2, 2, 0} {
			s.add(step)
		}
		if len(s.list) != 2 || s.list[0] != 2 || s.list[1] != 0 || !s.isIn[0] || s.isIn[1] || !s.isIn[2] {
			t.Fatal(s.list, s.isIn)
		}
		s.removeAll()
		if len(s.list) != 0 || s.isIn[0] || s.isIn[1] || s.isIn[2] {
			t.Fatal(s.list, s.isIn)
		}
	}
}
