package date_test

import (
	"fmt"
	"strings"
	"testing"

	"viaticum/date"
)

// samples are dates of each shape.
func samples() []string {
	return []string{"2000-02-29T12:34:56Z", "1987-10-30T20:18:39+11:22", "2011-12-13T04:05:06-23:59", "1970-01-01T00:00:00Z"}
}

// P8.2: the chapter's example, and others by hand.
func TestParseOfKnown(t *testing.T) {
	for s, want := range map[string]int64{
		"2000-03-01T00:00:00Z": 951868800,
		"1970-01-01T00:00:00Z": 0, "1970-01-01T00:00:01Z": 1, "1970-01-01T00:01:00Z": 60, "1970-01-01T01:00:00Z": 3600, "1970-01-02T00:00:00Z": 86400,
		"1970-02-01T00:00:00Z": 2678400, "1971-01-01T00:00:00Z": 31536000, "2000-02-29T23:59:59Z": 951868799, "2001-09-09T01:46:40Z": 1000000000,
		"2038-01-19T03:14:07Z": 1<<31 - 1, "2038-01-19T03:14:08Z": 1 << 31, "9999-12-31T23:59:59Z": last,
		"1985-04-12T23:20:50+00:00": 482196050, "1996-12-19T16:39:57-08:00": 851042397, "1996-12-20T00:39:57Z": 851042397, "1990-12-31T23:59:00Z": 662687940,
	} {
		wantMoment(t, s, want)
	}
}

// P8.2: hours, minutes, seconds at their bounds and one beyond.
func TestClockBounds(t *testing.T) {
	const day = 951782400 // 2000-02-29
	for h := range 100 {
		for _, m := range []int{0, 1, 9, 10, 58, 59, 60, 61, 99} {
			for _, s := range []int{0, 1, 9, 10, 58, 59, 60, 61, 99} {
				text := fmt.Sprintf("2000-02-29T%02d:%02d:%02dZ", h, m, s)
				if h < 24 && m < 60 && s < 60 {
					wantMoment(t, text, int64(day+3600*h+60*m+s))
				} else {
					wantNoMoment(t, text)
				}
			}
		}
	}
}

// P8.2: a day that is.
func TestParseDays(t *testing.T) {
	for _, y := range []int{0, 1, 1900, 1968, 1969, 1970, 1971, 1972, 1999, 2000, 2001, 2004, 2100, 9996, 9999} {
		for m := range 100 {
			for d := range 100 {
				text := fmt.Sprintf("%04d-%02d-%02dT00:00:00Z", y, m, d)
				n, ok := date.Days(y, m, d)
				if ok && y >= 1970 {
					wantMoment(t, text, n*86400)
				} else {
					wantNoMoment(t, text)
				}
			}
		}
	}
	wantNoMoment(t, "1970-00-01T00:00:00Z", "1970-13-01T00:00:00Z", "1970-01-00T00:00:00Z", "1970-01-32T00:00:00Z", "1970-04-31T00:00:00Z", "1970-02-29T00:00:00Z", "2100-02-29T00:00:00Z", "2000-02-30T00:00:00Z")
}

// P8.2: what the offset says is taken off, and its hours are 0 to 23, its minutes 0 to 59, on either side.
func TestOffsets(t *testing.T) {
	const noon = 951825600 // 2000-02-29T12:00:00Z
	for h := range 100 {
		for m := range 100 {
			ahead := fmt.Sprintf("2000-02-29T12:00:00+%02d:%02d", h, m)
			behind := fmt.Sprintf("2000-02-29T12:00:00-%02d:%02d", h, m)
			if h < 24 && m < 60 {
				wantMoment(t, ahead, int64(noon-3600*h-60*m))
				wantMoment(t, behind, int64(noon+3600*h+60*m))
			} else {
				wantNoMoment(t, ahead, behind)
			}
		}
	}
	wantMoment(t, "2000-02-29T12:00:00+23:59", noon-86340)
	wantMoment(t, "2000-02-29T12:00:00-23:59", noon+86340)
	wantMoment(t, "2000-02-29T12:00:00+00:00", noon)
	wantMoment(t, "2000-02-29T12:00:00-00:00", noon)
	wantNoMoment(t, "2000-02-29T12:00:00+24:00", "2000-02-29T12:00:00-24:00", "2000-02-29T12:00:00+00:60", "2000-02-29T12:00:00-00:60")
}

// P8.2: moments that the offset carries to the bounds, and one beyond.
func TestOffsetsAtBounds(t *testing.T) {
	for s, want := range map[string]int64{
		"1970-01-01T00:01:00+00:01": 0, "1970-01-01T01:00:00+01:00": 0, "1970-01-01T23:59:00+23:59": 0, "1970-01-01T00:01:01+00:01": 1,
		"1969-12-31T23:59:00-00:01": 0, "1969-12-31T23:59:59-00:01": 59, "1969-12-31T00:01:00-23:59": 0, "1970-01-01T00:00:00-23:59": 86340,
		"9999-12-31T23:58:59-00:01": last, "9999-12-31T00:00:59-23:59": last, "9999-12-31T22:59:59-01:00": last,
		"9999-12-31T23:59:59+00:01": last - 60, "9999-12-31T23:59:59+23:59": last - 86340, "9999-12-31T23:59:59-00:00": last, "9999-12-31T23:59:59+00:00": last,
	} {
		wantMoment(t, s, want)
	}
	wantNoMoment(t,
		"1970-01-01T00:00:59+00:01", "1970-01-01T00:00:00+00:01", "1970-01-01T00:59:59+01:00", "1970-01-01T23:58:59+23:59", "1970-01-01T00:00:00+23:59",
		"1969-12-31T23:58:59-00:01", "1969-12-31T00:00:59-23:59", "1969-12-31T23:59:59Z", "1969-12-31T23:59:59+00:00", "1969-12-31T23:59:59-00:00", "1969-12-30T23:59:59-23:59",
		"9999-12-31T23:59:00-00:01", "9999-12-31T23:59:59-00:01", "9999-12-31T00:01:00-23:59", "9999-12-31T23:59:59-23:59",
		"0000-01-01T00:00:00Z", "0000-01-01T00:00:00+23:59", "0000-01-01T00:00:00-23:59", "0000-12-31T23:59:59Z", "0001-01-01T00:00:00Z", "1900-03-01T00:00:00Z",
	)
}

// P8.2: another letter, a sign that is missing or wrong, things that other programs take.
func TestParseOfOtherShapes(t *testing.T) {
	wantNoMoment(t,
		"", "Z", "1970", "1970-01-01", "1970-01-01Z", "1970-01-01T00:00Z", "00:00:00Z", "1970-01-01T00:00:00", "1970-01-01T00:00:0Z",
		"1970-01-01T00:00:00z", "1970-01-01t00:00:00Z", "1970-01-01 00:00:00Z", "1970-01-01T00:00:00A", "1970-01-01T00:00:00Y", "1970-01-01T00:00:00UTC",
		"19700101T000000Z", "1970-01-0100:00:00Z", "1970/01/01T00:00:00Z", "1970-01:01T00:00:00Z", "1970-01-01T00-00-00Z", "1970-01-01T00:00.00Z",
		"1970-1-01T00:00:00Z", "1970-01-1T00:00:00Z", "970-01-01T00:00:00Z", "01970-01-01T00:00:00Z", "+1970-01-01T00:00:00Z", "-1970-01-01T00:00:00Z", "+197-01-01T00:00:00Z", "-000-01-01T00:00:00Z",
		"1970-+1-01T00:00:00Z", "1970--1-01T00:00:00Z", "1970-01-+1T00:00:00Z", "1970-01-01T+1:00:00Z", "1970-01-01T00:-1:00Z", "1970-01-01T00:00: 1Z", "1970-01-01T00:00:1 Z", "1_70-01-01T00:00:00Z", "0x7b-01-01T00:00:00Z",
		"1970-01-01T00:00:00.5Z", "1970-01-01T00:00:00,5Z", "1970-01-01T00:00:00.Z", "1970-01-01T00:00:00.000Z", "1970-01-01T00:00:60Z", "2016-12-31T23:59:60Z", "1970-01-01T24:00:00Z",
		" 1970-01-01T00:00:00Z", "1970-01-01T00:00:00Z ", "1970-01-01T00:00:00Z\n", "1970-01-01T00:00:00Z\x00", "1970-01-01T00:00:00 Z", "1970-01-01T00:00:00ZZ",
		"1970-01-01T00:00:00Z+00:00", "1970-01-01T00:00:00+00:00Z", "1970-01-01T00:00:00Z00:00", "1970-01-01T00:00:00 00:00", "1970-01-01T00:00:0000:00", "1970-01-01T00:00:00*00:00", "1970-01-01T00:00:00,00:00",
		"1970-01-01T00:00:00-0000", "1970-01-01T00:00:00-00", "1970-01-01T00:00:00-0:00", "1970-01-01T00:00:00-00:0", "1970-01-01T00:00:00-00:000", "1970-01-01T00:00:00-000:00", "1970-01-01T00:00:00-00:00:00", "1970-01-01T00:00:00+", "1970-01-01T00:00:00-",
		"1970-01-01T00:00:00-00-00", "1970-01-01T00:00:00-+1:00", "1970-01-01T00:00:00--1:00", "1970-01-01T00:00:00-00:+1", "1970-01-01T00:00:00--00:01", "1970-01-01T00:00:00\u221200:01",
		"\uff11970-01-01T00:00:00Z", "\u0661970-01-01T00:00:00Z", "1970-01-01T00:00:00Z"+strings.Repeat("0", 1<<20), strings.Repeat("1970-01-01T00:00:00Z", 1<<16),
	)
}

// P8.2: each byte that there is at each place of a date: all but digits in a digit's place, and a sign for a sign, spoil it.
func TestParseEachByte(t *testing.T) {
	for _, s := range samples() {
		if _, ok := moment(s); !ok {
			t.Fatalf("%q is no sample", s)
		}
		for at := range len(s) {
			for c := range 256 {
				changed := s[:at] + string([]byte{byte(c)}) + s[at+1:]
				isDigit := '0' <= c && c <= '9'
				signs := at == 19 && len(s) > 20 && (c == '+' || c == '-')
				if stood := s[at]; '0' <= stood && stood <= '9' && isDigit || c == int(stood) || signs {
					wantSame(t, changed)
				} else {
					wantNoMoment(t, changed)
				}
			}
		}
	}
}

// P8.2: a byte more and a byte less at each place, and each date cut off.
func TestParseOfOtherLengths(t *testing.T) {
	for _, s := range samples() {
		for at := range len(s) {
			wantNoMoment(t, s[:at], s[at+1:], s[:at]+s[at+1:])
		}
		for at := range len(s) + 1 {
			for c := range 256 {
				wantNoMoment(t, s[:at]+string([]byte{byte(c)})+s[at:])
			}
		}
	}
}

// P8.2: two bytes changed at once, by bytes that stand in dates.
func TestParseOfTwoChanges(t *testing.T) {
	for _, s := range samples() {
		b := []byte(s)
		for i := range b {
			for j := range i {
				for _, c := range "0123456789-+:TZ" {
					for _, d := range "0123456789-+:TZ" {
						b[i], b[j] = byte(c), byte(d)
						wantSame(t, string(b))
					}
				}
				b[i], b[j] = s[i], s[j]
			}
		}
	}
}

// FuzzParse: P8.2, as package time has it.
func FuzzParse(f *testing.F) {
	for _, s := range samples() {
		f.Add(s)
	}
	f.Fuzz(func(t *testing.T, s string) {
		wantSame(t, s)
		if n, ok := date.Parse(s); ok {
			wantMoment(t, date.Print(n), n)
		}
	})
}
