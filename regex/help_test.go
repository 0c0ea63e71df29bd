package regex_test

import (
	"reflect"
	"strings"
	"testing"

	"viaticum/api"
	"viaticum/regex"
)

// set are bytes as a step has them.
func set(bytes string) (s [4]uint64) {
	for i := range len(bytes) {
		s[bytes[i]>>6] |= 1 << (bytes[i] & 63)
	}
	return s
}

// except are all bytes but these.
func except(bytes string) [4]uint64 {
	var others []byte
	for c := range 256 {
		if strings.IndexByte(bytes, byte(c)) < 0 {
			others = append(others, byte(c))
		}
	}
	return set(string(others))
}

// span are all bytes from one to another.
func span(low, high int) string {
	var s []byte
	for c := low; c <= high; c++ {
		s = append(s, byte(c))
	}
	return string(s)
}

func char(bytes string) regex.Inst { return regex.Inst{Kind: regex.Char, Set: set(bytes)} }

func split(x, y int) regex.Inst { return regex.Inst{Kind: regex.Split, X: x, Y: y} }

func jump(x int) regex.Inst { return regex.Inst{Kind: regex.Jump, X: x} }

// kind is a step that has nothing beside its kind.
func kind(k int) regex.Inst { return regex.Inst{Kind: k} }

func program(steps ...regex.Inst) []regex.Inst { return steps }

// wantProgram fails unless s has just that program.
func wantProgram(t *testing.T, s string, want []regex.Inst) {
	t.Helper()
	got, e := regex.Compile(s)
	if e != api.OK || !reflect.DeepEqual(got, want) {
		t.Fatalf("%q:\ngot  %v, %d\nwant %v", s, got, e, want)
	}
}

// wantErrno fails unless s is refused with e, and with nothing beside it.
func wantErrno(t *testing.T, s string, want api.Errno) {
	t.Helper()
	if l, e := regex.Compile(s); e != want || l != nil {
		t.Errorf("%q: %d, %d steps; want %d, and none", s, e, len(l), want)
	}
}

// wantBounds fails unless the program keeps to P9.3, and to what its steps' fields may be.
func wantBounds(t *testing.T, s string, l []regex.Inst) {
	t.Helper()
	if len(l) == 0 || len(l) > 3*len(s)+1 {
		t.Fatalf("%q: %d steps", s, len(l))
	}
	for i, x := range l {
		if x.X < 0 || x.X >= len(l) || x.Y < 0 || x.Y >= len(l) {
			t.Fatalf("%q: step %d goes to %d, %d of %d", s, i, x.X, x.Y, len(l))
		}
		rest := x
		switch x.Kind {
		case regex.Split:
			rest.X, rest.Y = 0, 0
		case regex.Jump:
			rest.X = 0
		case regex.Char:
			rest.Set = [4]uint64{}
		}
		if rest != kind(x.Kind) {
			t.Fatalf("%q: step %d has more than its kind has: %v", s, i, x)
		}
		if (x.Kind == regex.Done) != (i == len(l)-1) {
			t.Fatalf("%q: step %d is %d", s, i, x.Kind)
		}
	}
}
