package date_test

import (
	"fmt"
	"math"
	"testing"

	"viaticum/date"
)

// P8.2: moments by hand, at the ends of days, months, years.
func TestPrintOfKnown(t *testing.T) {
	for n, want := range map[int64]string{
		951868800: "2000-03-01T00:00:00Z", 951868799: "2000-02-29T23:59:59Z", 951782400: "2000-02-29T00:00:00Z", 951782399: "2000-02-28T23:59:59Z",
		0: "1970-01-01T00:00:00Z", 1: "1970-01-01T00:00:01Z", 59: "1970-01-01T00:00:59Z", 60: "1970-01-01T00:01:00Z", 3599: "1970-01-01T00:59:59Z", 3600: "1970-01-01T01:00:00Z",
		86399: "1970-01-01T23:59:59Z", 86400: "1970-01-02T00:00:00Z", 2678399: "1970-01-31T23:59:59Z", 2678400: "1970-02-01T00:00:00Z",
		31535999: "1970-12-31T23:59:59Z", 31536000: "1971-01-01T00:00:00Z", 68255999: "1972-02-29T23:59:59Z", 946684799: "1999-12-31T23:59:59Z", 978307199: "2000-12-31T23:59:59Z",
		4107542399: "2100-02-28T23:59:59Z", 4107542400: "2100-03-01T00:00:00Z", 1000000000: "2001-09-09T01:46:40Z", 1<<31 - 1: "2038-01-19T03:14:07Z", 1 << 32: "2106-02-07T06:28:16Z",
		last - 86399: "9999-12-31T00:00:00Z", last - 1: "9999-12-31T23:59:58Z", last: "9999-12-31T23:59:59Z",
	} {
		wantText(t, n, want)
	}
}

// P8.2: nothing of what is not 0 to 253402300799.
func TestPrintBeyond(t *testing.T) {
	for _, n := range []int64{-1, -2, -60, -86400, -last, last + 1, last + 2, last + 86400, 1 << 38, 1 << 62, math.MaxInt64, math.MaxInt64 - 1, math.MinInt64, math.MinInt64 + 1} {
		wantText(t, n, "")
	}
}

// P8.3: of each day's first second and last one, through all years, Print is as by hand, and Parse of it is the number.
func TestPrintEachDay(t *testing.T) {
	if testing.Short() {
		t.Skip("takes seconds")
	}
	first := int64(0)
	for y := 1970; y < 10000; y++ {
		for i, length := range lengths(date.Leap(y)) {
			for d := range length {
				day := fmt.Sprintf("%04d-%02d-%02d", y, i+1, d+1)
				for n, s := range map[int64]string{first: day + "T00:00:00Z", first + 86399: day + "T23:59:59Z"} {
					wantText(t, n, s)
					wantMoment(t, s, n)
				}
				first += 86400
			}
		}
	}
	if first != last+1 {
		t.Errorf("behind the last day: %d", first)
	}
}

// P8.3: each second of a day, of a leap day, of the last day.
func TestPrintEachSecond(t *testing.T) {
	for _, from := range []int64{0, 951782400, last - 86399} {
		for n := from; n < from+86400; n++ {
			wantText(t, n, text(n))
			wantMoment(t, date.Print(n), n)
		}
	}
}

// P8.3: moments of all times, the same each run, with all offsets.
func TestParseOfPrint(t *testing.T) {
	x := uint64(0x9e3779b97f4a7c15)
	for range 200000 {
		x = x*6364136223846793005 + 1442695040888963407
		n := int64(x>>11) % (last + 1)
		s := date.Print(n)
		wantText(t, n, text(n))
		wantMoment(t, s, n)
		hour, minute := int64(x%24), int64(x>>5%60)
		offset := 3600*hour + 60*minute
		if n >= offset {
			wantMoment(t, fmt.Sprintf("%s+%02d:%02d", s[:19], hour, minute), n-offset)
		}
		if n <= last-offset {
			wantMoment(t, fmt.Sprintf("%s-%02d:%02d", s[:19], hour, minute), n+offset)
		}
	}
}
