package date_test

import (
	"regexp"
	"strconv"
	"testing"
	"time"

	"viaticum/date"
)

const last = 253402300799 // 9999-12-31T23:59:59Z

var form = regexp.MustCompile(`^([0-9]{4})-([0-9]{2})-([0-9]{2})T([0-9]{2}):([0-9]{2}):([0-9]{2})(Z|([+-])([0-9]{2}):([0-9]{2}))$`)

// moment reads a date by other means than the package's: a pattern, and package time.
func moment(s string) (int64, bool) {
	part := form.FindStringSubmatch(s)
	if part == nil {
		return 0, false
	}
	var n [11]int
	for i, p := range part {
		n[i], _ = strconv.Atoi(p)
	}
	at := time.Date(n[1], time.Month(n[2]), n[3], n[4], n[5], n[6], 0, time.UTC)
	// What is beyond its bounds is carried on by package time, and then reads otherwise.
	if at.Format("2006-01-02T15:04:05") != s[:19] || n[9] > 23 || n[10] > 59 {
		return 0, false
	}
	offset := int64(60 * (60*n[9] + n[10]))
	if part[8] == "-" {
		offset = -offset
	}
	told := at.Unix() - offset
	if told < 0 || told > last {
		return 0, false
	}
	return told, true
}

// text writes a moment by package time.
func text(n int64) string {
	return time.Unix(n, 0).UTC().Format("2006-01-02T15:04:05Z")
}

func wantMoment(t *testing.T, s string, want int64) {
	t.Helper()
	if n, ok := date.Parse(s); n != want || !ok {
		t.Errorf("Parse(%q): got %d, %v, want %d", s, n, ok, want)
	}
}

// wantNoMoment wants false of each, and nothing beside it.
func wantNoMoment(t *testing.T, l ...string) {
	t.Helper()
	for _, s := range l {
		if n, ok := date.Parse(s); n != 0 || ok {
			t.Errorf("Parse(%q): got %d, %v", s, n, ok)
		}
	}
}

// wantSame wants what package time says of s.
func wantSame(t *testing.T, s string) {
	t.Helper()
	want, isDate := moment(s)
	if n, ok := date.Parse(s); n != want || ok != isDate {
		t.Errorf("Parse(%q): got %d, %v, want %d, %v", s, n, ok, want, isDate)
	}
}

func wantText(t *testing.T, n int64, want string) {
	t.Helper()
	if got := date.Print(n); got != want {
		t.Errorf("Print(%d): got %q, want %q", n, got, want)
	}
}

func wantDay(t *testing.T, y, m, d int, want int64) {
	t.Helper()
	if n, ok := date.Days(y, m, d); n != want || !ok {
		t.Errorf("Days(%d, %d, %d): got %d, %v, want %d", y, m, d, n, ok, want)
	}
}

// wantNoDay wants false, and nothing beside it.
func wantNoDay(t *testing.T, y, m, d int) {
	t.Helper()
	if n, ok := date.Days(y, m, d); n != 0 || ok {
		t.Errorf("Days(%d, %d, %d): got %d, %v", y, m, d, n, ok)
	}
}

// lengths are how many days the months have.
func lengths(leap bool) [12]int {
	l := [12]int{31, 28, 31, 30, 31, 30, 31, 31, 30, 31, 30, 31}
	if leap {
		l[1]++
	}
	return l
}
