package symbol_test

import (
	"math"
	"slices"
	"strconv"
	"strings"
	"testing"

	"viaticum/symbol"
)

// sixteen is what the chapter's P13.1 lists, written out once more.
var sixteen = strings.Fields("read write resource operation right time role owner tenant user team service admin email group member")

// numbered is n texts, none of them like another, nor known to a new table.
func numbered(name string, n int) []string {
	var l []string
	for i := range n {
		l = append(l, name+strconv.Itoa(i))
	}
	return l
}

// with is a table that was handed these texts, one by one.
func with(t *testing.T, l ...string) *symbol.Table {
	t.Helper()
	s := symbol.New()
	for i, x := range l {
		wantNumber(t, s, x, 1024+i)
	}
	return s
}

func wantNumber(t *testing.T, s *symbol.Table, x string, want int) {
	t.Helper()
	if n, ok := s.Number(x); n != want || !ok {
		t.Errorf("Number(%s): got %d, %v, want %d", brief(x), n, ok, want)
	}
}

func wantNoNumber(t *testing.T, s *symbol.Table, x string) {
	t.Helper()
	if n, ok := s.Number(x); n != 0 || ok {
		t.Errorf("Number(%s): got %d, %v, want none", brief(x), n, ok)
	}
}

func wantText(t *testing.T, s *symbol.Table, n int, want string) {
	t.Helper()
	if x, ok := s.Text(n); x != want || !ok {
		t.Errorf("Text(%d): got %s, %v, want %s", n, brief(x), ok, brief(want))
	}
}

func wantNoText(t *testing.T, s *symbol.Table, numbers ...int) {
	t.Helper()
	for _, n := range numbers {
		if x, ok := s.Text(n); x != "" || ok {
			t.Errorf("Text(%d): got %s, %v, want none", n, brief(x), ok)
		}
	}
}

// wantAll asks s all that it can be asked without being changed: own is all of its own.
func wantAll(t *testing.T, s *symbol.Table, own ...string) {
	t.Helper()
	if got := s.Own(); !slices.Equal(got, own) {
		t.Errorf("Own: got %d texts, want %d: got %s, want %s", len(got), len(own), brief(strings.Join(got, " ")), brief(strings.Join(own, " ")))
	}
	for n, x := range sixteen {
		wantText(t, s, n, x)
		wantNumber(t, s, x, n)
	}
	for i, x := range own {
		wantText(t, s, 1024+i, x)
		wantNumber(t, s, x, 1024+i)
	}
	end := 1024 + len(own)
	wantNoText(t, s, math.MinInt, math.MinInt+1, math.MinInt+1023, math.MinInt+1024, -1025, -1024, -16, -1, 16, 17, 1000, 1022, 1023, end, end+1, 1<<16, 1<<32, 1<<32+1024, 1<<62, math.MaxInt-1, math.MaxInt)
}

// brief is x, or its beginning and how long it is.
func brief(x string) string {
	if len(x) > 60 {
		return strconv.Quote(x[:60]) + ".. of " + strconv.Itoa(len(x))
	}
	return strconv.Quote(x)
}
