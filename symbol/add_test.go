package symbol_test

import (
	"slices"
	"strconv"
	"strings"
	"testing"

	"viaticum/symbol"
)

func wantAdd(t *testing.T, s *symbol.Table, want bool, l ...string) {
	t.Helper()
	if s.Add(l) != want {
		t.Errorf("Add of %d texts, %s: want %v", len(l), brief(strings.Join(l, " ")), want)
	}
}

// P13.2: all of l come to its own, in order.
func TestAdd(t *testing.T) {
	s := symbol.New()
	wantAdd(t, s, true, "b", "a")
	wantAll(t, s, "b", "a")
	wantAdd(t, s, true, "c")
	wantAll(t, s, "b", "a", "c")
	wantNumber(t, s, "d", 1027)
	wantAdd(t, s, true, "", strings.Repeat("a", 256), "Right", "\xff")
	wantAll(t, s, "b", "a", "c", "d", "", strings.Repeat("a", 256), "Right", "\xff")
	wantNumber(t, s, "e", 1032)
}

// P13.2: Add of nothing takes nothing, however full the table is.
func TestAddNothing(t *testing.T) {
	l := numbered("n", 1000)
	for _, own := range []int{0, 1, 999, 1000} {
		s := with(t, l[:own]...)
		wantAdd(t, s, true)
		if !s.Add(nil) || !s.Add([]string{}) || !s.Add(l[:0]) {
			t.Error("of nothing:", own)
		}
		wantAll(t, s, l[:own]...)
	}
}

// bad is lists that a table with x, y and "" of its own does not take, for one text within them or for two of them.
func bad() [][]string {
	long := strings.Repeat("b", 257)
	var lists [][]string
	for _, x := range append([]string{"x", "y", "", long, long + long, strings.Repeat("c", 1<<20)}, sixteen...) {
		lists = append(lists, []string{x}, []string{x, x}, []string{x, "a"}, []string{"a", x}, []string{"a", x, "b"}, []string{x, "a", "b"}, []string{"a", "b", x})
	}
	lists = append(lists, []string{"a", "a"}, []string{"a", "a", "b"}, []string{"a", "b", "a"}, []string{"b", "a", "a"}, []string{"a", "a", "a"}, []string{"a", "b", "a", "b"}, []string{"a", "x", "a"})
	// At the beginning, in the middle, at the end of a long one.
	for _, at := range []int{0, 1, 250, 498, 499} {
		for _, x := range []string{"x", "right", long, "n249", "n0", "n499"} {
			if l := numbered("n", 500); l[at] != x {
				l[at] = x
				lists = append(lists, l)
			}
		}
	}
	return lists
}

// P13.2: one that it knows, one that stands twice in l, one too long: nothing changes.
func TestAddBad(t *testing.T) {
	s := with(t, "x", "y", "")
	for _, l := range bad() {
		wantAdd(t, s, false, l...)
		wantAll(t, s, "x", "y", "")
	}
	// None of those that stood ahead of the bad one is known now.
	wantAdd(t, s, true, "b", "a")
	wantAdd(t, s, true, numbered("n", 500)...)
	wantAll(t, s, append([]string{"x", "y", "", "b", "a"}, numbered("n", 500)...)...)
}

// P13.2: as many as there is room for, and one more.
func TestAddTooMany(t *testing.T) {
	l := numbered("m", 1001)
	for _, own := range []int{0, 1, 2, 500, 998, 999, 1000} {
		had := numbered("n", own)
		s := with(t, had...)
		room := 1000 - own
		for _, more := range []int{room + 1, 1001, room + 1} {
			wantAdd(t, s, false, l[:more]...)
			wantAll(t, s, had...)
		}
		wantAdd(t, s, false, numbered("k", 5000)...)
		wantAll(t, s, had...)
		if room > 0 {
			wantAdd(t, s, true, l[:room-1]...)
			wantAdd(t, s, false, "y", "z")
			wantAll(t, s, append(had, l[:room-1]...)...)
			wantAdd(t, s, true, "z")
			had = append(append(had, l[:room-1]...), "z")
		}
		wantAll(t, s, had...)
		wantAdd(t, s, false, "more")
		wantAdd(t, s, false, "")
		wantNoNumber(t, s, "more")
		wantAll(t, s, had...)
	}
}

// P13.2: 999, 1000 and 1001 at once.
func TestAddManyAtOnce(t *testing.T) {
	l := numbered("m", 1001)
	for _, many := range []int{999, 1000, 1001} {
		s := symbol.New()
		want := l[:many]
		if many > 1000 {
			want = nil
		}
		wantAdd(t, s, many <= 1000, l[:many]...)
		wantAll(t, s, want...)
	}
}

// P13.2: one by one it takes as many, too.
func TestAddOneByOne(t *testing.T) {
	s := symbol.New()
	l := numbered("m", 1000)
	for i, x := range l {
		wantAdd(t, s, true, x)
		wantAdd(t, s, false, x)
		wantNumber(t, s, x, 1024+i)
	}
	wantAdd(t, s, false, "more")
	wantAll(t, s, l...)
}

// R2: what is handed to Add stays as it is, and what lies behind its length counts for nothing.
func TestAddKeepsItsArgument(t *testing.T) {
	for _, l := range append(bad(), []string{"a", "b", "c"}, []string{"c", "b", "a"}) {
		for _, behind := range []string{"right", "x", "a", strings.Repeat("z", 300), "new"} {
			room := append(slices.Clone(l), behind, behind)
			s := with(t, "x", "y", "")
			took := s.Add(room[:len(l)])
			if !slices.Equal(room[:len(l)], l) || room[len(l)] != behind || room[len(l)+1] != behind {
				t.Errorf("changed: %s", brief(strings.Join(room, " ")))
			}
			if alone := with(t, "x", "y", "").Add(slices.Clone(l)); took != alone {
				t.Errorf("%s ahead of %s: got %v", brief(strings.Join(l, " ")), brief(behind), took)
			}
		}
	}
}

// R2: the table keeps nothing of what is handed to Add: written over, it stays.
func TestAddKeepsNoList(t *testing.T) {
	for _, many := range []int{1, 2, 10, 1000} {
		s := symbol.New()
		want := numbered("m", many)
		l := slices.Clone(want)
		wantAdd(t, s, true, l...)
		for i := range l {
			l[i] = "other" + strconv.Itoa(i)
		}
		l = append(l[:0], "right", "x")
		wantAll(t, s, want...)
		if many < 1000 {
			wantNumber(t, s, "behind", 1024+many)
			if l[0] != "right" || l[1] != "x" {
				t.Error(l)
			}
		}
	}
}
