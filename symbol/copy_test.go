package symbol_test

import (
	"math/rand"
	"slices"
	"strconv"
	"strings"
	"testing"

	"viaticum/symbol"
)

// P13.2: Own of a new table is nothing.
func TestOwnOfNone(t *testing.T) {
	s := symbol.New()
	s.Number("right")
	s.Number(strings.Repeat("a", 257))
	s.Text(1024)
	s.Add([]string{"x", "x"})
	if got := s.Own(); len(got) != 0 {
		t.Error(got)
	}
}

// P13.2, R2: what Own tells is the caller's: written over, and with more put behind it, the table stays.
func TestOwnIsTheCallers(t *testing.T) {
	for _, many := range []int{1, 2, 3, 5, 100, 999, 1000} {
		want := numbered("n", many)
		s := with(t, want...)
		first, second := s.Own(), s.Own()
		all := first[:cap(first)]
		for i := range all {
			if i >= many && all[i] != "" {
				t.Errorf("behind %d: %q", many, all[i])
			}
			all[i] = "other" + strconv.Itoa(i)
		}
		wantAll(t, s, want...)
		if !slices.Equal(second, want) {
			t.Error("two lists share memory:", many)
		}
		if many < 1000 {
			wantNumber(t, s, "behind", 1024+many)
			if got := append(second, "mine"); got[many] != "mine" || s.Own()[many] != "behind" {
				t.Error("what is put behind:", many)
			}
			wantAll(t, s, append(want, "behind")...)
		}
	}
}

// P13.2: what Own told before does not change by what comes.
func TestOwnStays(t *testing.T) {
	s := with(t, "x", "y")
	got := s.Own()
	s.Number("z")
	s.Add([]string{"a", "b"})
	if !slices.Equal(got, []string{"x", "y"}) {
		t.Error(got)
	}
}

// P13.2: a copy is like it.
func TestCopy(t *testing.T) {
	for _, many := range []int{0, 1, 2, 7, 999, 1000} {
		l := numbered("n", many)
		s := with(t, l...)
		c := s.Copy()
		if c == s {
			t.Fatal("the same table")
		}
		wantAll(t, c, l...)
		wantAll(t, c.Copy().Copy(), l...)
		wantAll(t, s, l...)
	}
}

// P13.2: a copy goes its own way, however much room there was.
func TestCopyGoesItsOwnWay(t *testing.T) {
	for many := range 40 {
		l := numbered("n", many)
		s := with(t, l...)
		c, d := s.Copy(), s.Copy()
		wantNumber(t, s, "x", 1024+many)
		wantAll(t, c, l...)
		wantNumber(t, c, "y", 1024+many)
		wantAdd(t, d, true, "z", "x")
		wantAll(t, s, append(l[:many:many], "x")...)
		wantAll(t, c, append(l[:many:many], "y")...)
		wantAll(t, d, append(l[:many:many], "z", "x")...)
		wantNumber(t, c, "x", 1024+many+1)
		wantNumber(t, s, "y", 1024+many+1)
		wantAdd(t, d, false, "x")
		wantAll(t, s, append(l[:many:many], "x", "y")...)
		wantAll(t, c, append(l[:many:many], "y", "x")...)
		wantAll(t, d, append(l[:many:many], "z", "x")...)
	}
}

// P13.1: new tables know nothing of one another.
func TestNewTablesShareNothing(t *testing.T) {
	s, r := symbol.New(), symbol.New()
	wantNumber(t, s, "x", 1024)
	wantNumber(t, r, "y", 1024)
	wantAdd(t, r, true, "x")
	wantAll(t, s, "x")
	wantAll(t, r, "y", "x")
	wantAll(t, symbol.New())
}

// P13.2: a copy of a full table is full, one of an almost full one takes one more.
func TestCopyOfFull(t *testing.T) {
	l := numbered("n", 1000)
	almost := with(t, l[:999]...)
	full := almost.Copy()
	wantNumber(t, full, l[999], 2023)
	full = full.Copy()
	wantNoNumber(t, full, "more")
	wantAdd(t, full, false, "more")
	wantAdd(t, almost, true, "more")
	wantAll(t, full, l...)
	wantAll(t, almost, append(l[:999:999], "more")...)
}

// P13.1 to P13.3: many tables, copied from one another, whatever is asked of them, against rows that are gone through.
func TestAgainstRows(t *testing.T) {
	r := rand.New(rand.NewSource(13))
	tables, rows := []*symbol.Table{symbol.New()}, [][]string{nil}
	for step := range 6000 {
		i := r.Intn(len(tables))
		switch r.Intn(8) {
		case 0:
			if len(tables) < 20 {
				tables, rows = append(tables, tables[i].Copy()), append(rows, slices.Clone(rows[i]))
			} else if r.Intn(10) == 0 {
				tables[i], rows[i] = symbol.New(), nil
			}
		case 1, 2:
			l := texts(r)
			if tables[i].Add(l) != mayAdd(rows[i], l) {
				t.Fatalf("step %d: Add(%q) to %d", step, l, len(rows[i]))
			}
			if mayAdd(rows[i], l) {
				rows[i] = append(rows[i], l...)
			}
		default:
			x := text(r)
			if !knows(rows[i], x) && len(rows[i]) < 1000 && len(x) <= 256 {
				rows[i] = append(rows[i], x)
			}
			if _, ok := tables[i].Number(x); ok != knows(rows[i], x) {
				t.Fatalf("step %d: Number(%s): %v", step, brief(x), ok)
			}
		}
		if step%50 == 0 {
			wantAll(t, tables[i], rows[i]...)
		}
	}
	for i := range tables {
		wantAll(t, tables[i], rows[i]...)
	}
}

func knows(row []string, x string) bool {
	return slices.Contains(sixteen, x) || slices.Contains(row, x)
}

func mayAdd(row, l []string) bool {
	for i, x := range l {
		if knows(row, x) || slices.Contains(l[:i], x) || len(x) > 256 {
			return false
		}
	}
	return len(row)+len(l) <= 1000
}

func text(r *rand.Rand) string {
	switch r.Intn(20) {
	case 0:
		return sixteen[r.Intn(16)]
	case 1:
		return strings.Repeat("a", 250+r.Intn(12))
	}
	return strconv.Itoa(r.Intn(1500))
}

func texts(r *rand.Rand) []string {
	var l []string
	for range r.Intn(5) {
		l = append(l, text(r))
	}
	if r.Intn(20) == 0 {
		l = append(l, numbered(text(r)+"-", r.Intn(400))...)
	}
	return l
}
