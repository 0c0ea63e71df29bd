package symbol_test

import (
	"strings"
	"testing"

	"viaticum/symbol"
)

// The chapter's example.
func TestExample(t *testing.T) {
	s := symbol.New()
	wantNumber(t, s, "right", 4)
	wantNumber(t, s, "x", 1024)
	wantNumber(t, s, "y", 1025)
}

// P13.1: what a new table knows of itself, by number and by text, and that it has none of its own.
func TestNew(t *testing.T) {
	if len(sixteen) != 16 {
		t.Fatal(len(sixteen))
	}
	wantAll(t, symbol.New())
	// Asked from the last one on: it is their place that numbers them, not who asks first.
	s := symbol.New()
	for n := 15; n >= 0; n-- {
		wantNumber(t, s, sixteen[n], n)
	}
	wantAll(t, s)
	for n, x := range map[int]string{0: "read", 1: "write", 4: "right", 7: "owner", 8: "tenant", 15: "member"} {
		wantText(t, s, n, x)
	}
}

// P13.1: no number beside the sixteen and its own ones has a text.
func TestNumbersOfNone(t *testing.T) {
	for _, s := range []*symbol.Table{symbol.New(), with(t, "x"), with(t, numbered("n", 1000)...)} {
		own := len(s.Own())
		for n := -2100; n < 0; n++ {
			wantNoText(t, s, n)
		}
		for n := 16; n < 1024; n++ {
			wantNoText(t, s, n)
		}
		for n := 1024 + own; n < 1024+own+2100; n++ {
			wantNoText(t, s, n)
		}
		for bit := 11; bit < 63; bit++ {
			wantNoText(t, s, 1<<bit, 1<<bit+1, 1<<bit+1023, 1<<bit+1024, -1<<bit, -1<<bit+1024, ^(1 << bit))
		}
	}
}

// P13.1: its own ones, in the order in which they came, whatever they are.
func TestOwnOnes(t *testing.T) {
	own := []string{
		"x", "", "y", "Right", "READ", "rea", "reads", " read", "read ", "read\x00", "readwrite", "read write", "members", "1024", "0", "-1",
		"\x00", "\x00\x00", "\xff", "\xff\xfe", "é", "e\u0301", "日本", "a\nb", "$x", "hex:00", "b", "a", "X", "Y", "xy", "yx", strings.Repeat("x", 255), strings.Repeat("x", 256), strings.Repeat("\xff", 256),
	}
	s := symbol.New()
	for i, x := range own {
		wantNumber(t, s, x, 1024+i)
		wantAll(t, s, own[:i+1]...)
	}
}

// P13.2: a text that it knows does not come once more.
func TestTwice(t *testing.T) {
	s := with(t, "x")
	for range 3 {
		wantNumber(t, s, "x", 1024)
		wantNumber(t, s, "member", 15)
		wantNumber(t, s, "read", 0)
	}
	wantAll(t, s, "x")
	wantNumber(t, s, "y", 1025)
	wantNumber(t, s, "x", 1024)
	wantNumber(t, s, "z", 1026)
	wantNumber(t, s, "y", 1025)
	wantAll(t, s, "x", "y", "z")
	// The same text from other memory.
	wantNumber(t, s, string([]byte{'y'}), 1025)
	wantNumber(t, s, strings.Join([]string{"ri", "ght"}, ""), 4)
	wantAll(t, s, "x", "y", "z")
}

// P13.2: a text of MaxText bytes may come, one of more may not, and leaves no trace.
func TestLongTexts(t *testing.T) {
	s := symbol.New()
	most := strings.Repeat("a", 256)
	for _, x := range []string{most + "a", strings.Repeat("a", 258), strings.Repeat("é", 129), strings.Repeat("b", 512), strings.Repeat("c", 1<<20), "read" + strings.Repeat("\x00", 253)} {
		wantNoNumber(t, s, x)
		wantAll(t, s)
	}
	wantNumber(t, s, most, 1024)
	wantNoNumber(t, s, most+"a")
	wantNumber(t, s, strings.Repeat("é", 128), 1025)
	wantNumber(t, s, most[:255]+"b", 1026)
	wantAll(t, s, most, strings.Repeat("é", 128), most[:255]+"b")
}

// P13.2: 1000 of its own and no more, though it knows them still.
func TestFull(t *testing.T) {
	l := numbered("n", 1000)
	s := with(t, l[:999]...)
	wantAll(t, s, l[:999]...)
	wantNumber(t, s, l[999], 2023)
	wantAll(t, s, l...)
	for _, x := range []string{"more", "", "n1000", "Right", strings.Repeat("a", 256), strings.Repeat("a", 257), "more"} {
		wantNoNumber(t, s, x)
		wantAll(t, s, l...)
	}
	wantText(t, s, 1024, "n0")
	wantText(t, s, 2023, "n999")
	wantNoText(t, s, 2024, 2025)
}

// P13.2: texts that it knows take no room.
func TestKnownTakesNoRoom(t *testing.T) {
	l := numbered("n", 1000)
	s := symbol.New()
	for i, x := range l {
		wantNumber(t, s, sixteen[i%16], i%16)
		wantNumber(t, s, x, 1024+i)
		wantNumber(t, s, l[i/2], 1024+i/2)
		wantNoNumber(t, s, strings.Repeat(x, 256))
	}
	wantAll(t, s, l...)
}

// P13.3: Number and Text undo one another, and a number stays what it was, whatever comes.
func TestStays(t *testing.T) {
	s := symbol.New()
	numbers := map[string]int{}
	for _, x := range append(numbered("a", 700), append(numbered("b", 700), sixteen...)...) {
		if n, ok := s.Number(x); ok {
			numbers[x] = n
			wantText(t, s, n, x)
		}
		s.Number(strings.Repeat(x, 257))
		s.Add([]string{x})
		s.Add([]string{x + "!", "right"})
	}
	if len(numbers) != 1016 {
		t.Error(len(numbers))
	}
	for x, n := range numbers {
		wantNumber(t, s, x, n)
		wantText(t, s, n, x)
	}
	for n := -10; n < 3000; n++ {
		if x, ok := s.Text(n); ok {
			wantNumber(t, s, x, n)
		}
	}
}

// R3: a nil table tells zero values, and takes nothing.
func TestNil(t *testing.T) {
	var none *symbol.Table
	for _, x := range []string{"", "read", "x", strings.Repeat("a", 257)} {
		wantNoNumber(t, none, x)
	}
	wantNoText(t, none, -1<<63, -1, 0, 4, 15, 16, 1023, 1024, 1<<63-1)
	if none.Own() != nil || none.Copy() != nil {
		t.Error(none.Own(), none.Copy())
	}
	for _, l := range [][]string{nil, {}, {"x"}, {"read"}, {"x", "x"}, numbered("n", 2000)} {
		if none.Add(l) {
			t.Errorf("Add of %d", len(l))
		}
	}
}

// R3: a table that New did not make does not panic; it is taken as a new one.
func TestZeroTable(t *testing.T) {
	wantAll(t, &symbol.Table{})
	wantAll(t, new(symbol.Table).Copy())
	var s, r symbol.Table
	wantNumber(t, &s, "x", 1024)
	wantAll(t, &s, "x")
	if !r.Add([]string{"y", "x"}) {
		t.Error("Add")
	}
	wantAll(t, &r, "y", "x")
}
