package date_test

import (
	"math"
	"testing"
	"time"

	"viaticum/date"
)

// far are numbers that are no year, no month and no day.
func far() []int {
	return []int{-1, -2, -4, -12, -100, -400, 10000, 10001, 10004, 10400, 1 << 31, 1 << 32, 1<<32 + 1, -1 << 32, math.MaxInt - 399, math.MaxInt, math.MinInt, math.MinInt + 1}
}

// P8.1: leap years by hand.
func TestLeapOfKnown(t *testing.T) {
	for y, want := range map[int]bool{
		0: true, 1: false, 2: false, 3: false, 4: true, 8: true, 96: true, 99: false, 100: false, 104: true,
		200: false, 300: false, 400: true, 500: false, 800: true, 1600: true, 1700: false, 1800: false, 1900: false,
		1968: true, 1970: false, 1972: true, 1996: true, 1999: false, 2000: true, 2001: false, 2004: true, 2023: false, 2024: true, 2100: false, 2400: true,
		9600: true, 9900: false, 9992: true, 9996: true, 9997: false, 9998: false, 9999: false,
	} {
		if date.Leap(y) != want {
			t.Errorf("%d: want %v", y, want)
		}
	}
}

// P8.1: beyond 0 to 9999 no year is one, though it be a multiple of 400.
func TestLeapBeyond(t *testing.T) {
	for _, y := range far() {
		if date.Leap(y) {
			t.Error(y)
		}
	}
}

// P8.1: of 400 years on end 97 are leap years, 24 or 25 of each hundred.
func TestLeapCounted(t *testing.T) {
	for from := 0; from < 10000; from += 100 {
		n := 0
		for y := from; y < from+100; y++ {
			if date.Leap(y) {
				n++
			}
		}
		want := 24
		if from%400 == 0 {
			want = 25
		}
		if n != want {
			t.Errorf("%d to %d: got %d", from, from+99, n)
		}
	}
}

// P8.1: days by hand, ahead of 1970 and behind.
func TestDaysOfKnown(t *testing.T) {
	for _, x := range []struct {
		y, m, d int
		want    int64
	}{
		{1970, 1, 1, 0}, {1970, 1, 2, 1}, {1970, 1, 31, 30}, {1970, 2, 1, 31}, {1970, 2, 28, 58}, {1970, 3, 1, 59}, {1970, 12, 31, 364}, {1971, 1, 1, 365},
		{1969, 12, 31, -1}, {1969, 12, 30, -2}, {1969, 1, 1, -365}, {1968, 12, 31, -366}, {1968, 3, 1, -671}, {1968, 2, 29, -672}, {1968, 2, 28, -673}, {1968, 1, 1, -731},
		{1972, 2, 29, 789}, {1972, 3, 1, 790}, {2000, 2, 29, 11016}, {2000, 3, 1, 11017}, {1900, 2, 28, -25509}, {1900, 3, 1, -25508},
		{0, 1, 1, -719528}, {0, 2, 29, -719469}, {0, 3, 1, -719468}, {0, 12, 31, -719163}, {1, 1, 1, -719162}, {9999, 1, 1, 2932532}, {9999, 12, 31, 2932896},
	} {
		wantDay(t, x.y, x.m, x.d, x.want)
	}
}

// P8.1: years, months, days one beyond their bounds, and far beyond.
func TestNoDays(t *testing.T) {
	for _, n := range far() {
		wantNoDay(t, n, 1, 1)
		wantNoDay(t, n, 2, 29)
		wantNoDay(t, n, 12, 31)
		wantNoDay(t, 2000, n, 1)
		wantNoDay(t, 2000, 1, n)
		wantNoDay(t, n, n, n)
	}
	for _, y := range []int{0, 1, 1900, 1969, 1970, 2000, 2001, 2004, 9998, 9999} {
		wantNoDay(t, y, 0, 1)
		wantNoDay(t, y, 0, 31)
		wantNoDay(t, y, 13, 1)
		wantNoDay(t, y, 13, 31)
		wantNoDay(t, y, -1, 1)
	}
}

// P8.1: each month's first day and last one, and one less and one more, of years of all sorts.
func TestMonthEnds(t *testing.T) {
	for y, leap := range map[int]bool{0: true, 1: false, 4: true, 100: false, 400: true, 1900: false, 1968: true, 1969: false, 1970: false, 1972: true, 2000: true, 2001: false, 2100: false, 9996: true, 9999: false} {
		for i, length := range lengths(leap) {
			first, ok := date.Days(y, i+1, 1)
			if !ok {
				t.Fatalf("%d, %d", y, i+1)
			}
			wantDay(t, y, i+1, length, first+int64(length)-1)
			wantNoDay(t, y, i+1, 0)
			wantNoDay(t, y, i+1, length+1)
			wantNoDay(t, y, i+1, -1)
			wantNoDay(t, y, i+1, 32)
		}
	}
}

// P8.3: through all years each day behind another one is one more, and no other day is one.
func TestEachDayIsOneMore(t *testing.T) {
	want := int64(-719528)
	for y := range 10000 {
		leap := y%4 == 0 && y%100 != 0 || y%400 == 0
		if date.Leap(y) != leap {
			t.Fatalf("Leap(%d)", y)
		}
		for i, length := range lengths(leap) {
			for d := 1; d <= length; d++ {
				wantDay(t, y, i+1, d, want)
				want++
			}
			for d := length + 1; d <= 33; d++ {
				wantNoDay(t, y, i+1, d)
			}
		}
	}
	if want != 2932897 {
		t.Errorf("behind the last day: %d", want)
	}
}

// P8.1: as package time has it.
func TestDaysAsTime(t *testing.T) {
	at := time.Date(0, 1, 1, 0, 0, 0, 0, time.UTC)
	for at.Year() < 10000 {
		wantDay(t, at.Year(), int(at.Month()), at.Day(), at.Unix()/86400)
		at = at.AddDate(0, 0, 1)
	}
}
