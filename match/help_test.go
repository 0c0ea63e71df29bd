package match_test

import (
	"testing"
	"time"

	"viaticum/api"
	"viaticum/match"
)

// wantFits fails unless Find and Whole tell just this of the text.
func wantFits(t *testing.T, pattern, text string, find, whole bool) {
	t.Helper()
	if got, e := match.Find(pattern, text); got != find || e != api.OK {
		t.Errorf("Find(%q, %q): got %v, %d, want %v", pattern, text, got, e, find)
	}
	if got, e := match.Whole(pattern, text); got != whole || e != api.OK {
		t.Errorf("Whole(%q, %q): got %v, %d, want %v", pattern, text, got, e, whole)
	}
}

// How texts fit a pattern: wantEach takes them by these names.
const (
	none = "none" // no part fits
	part = "part" // a part fits, but not all of it
	all  = "all"  // all of it fits
)

// wantEach fails unless each text fits the pattern as told.
func wantEach(t *testing.T, pattern string, want map[string][]string) {
	t.Helper()
	for how, texts := range want {
		for _, text := range texts {
			wantFits(t, pattern, text, how != none, how == all)
		}
	}
}

// wantErrno fails unless both calls are refused with e, and with nothing beside it.
func wantErrno(t *testing.T, pattern, text string, want api.Errno) {
	t.Helper()
	if got, e := match.Find(pattern, text); got || e != want {
		t.Errorf("Find(%q, %q): got %v, %d, want %d", pattern, text, got, e, want)
	}
	if got, e := match.Whole(pattern, text); got || e != want {
		t.Errorf("Whole(%q, %q): got %v, %d, want %d", pattern, text, got, e, want)
	}
}

// ends fails the test if what it is handed does not end; it may go on, so that nothing behind it is run.
func ends(t *testing.T, what string, do func()) {
	t.Helper()
	done := make(chan struct{})
	go func() {
		defer close(done)
		do()
	}()
	select {
	case <-done:
	case <-time.After(30 * time.Second):
		t.Fatalf("%s: no end in 30 seconds", what)
	}
}

// texts are all those of at most so many bytes, each one of these.
func texts(most int, bytes string) []string {
	l := []string{""}
	for from, long := 0, 0; long < most; long++ {
		to := len(l)
		for _, s := range l[from:to] {
			for i := range len(bytes) {
				l = append(l, s+bytes[i:i+1])
			}
		}
		from = to
	}
	return l
}
