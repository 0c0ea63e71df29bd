package regex_test

import (
	"math/rand"
	"regexp"
	"strings"
	"testing"

	"viaticum/api"
	"viaticum/regex"
)

const (
	noAtom = `[()*+?|\` // by itself each of these is none
	noByte = `.^$`      // by itself each of these is an atom, but not that byte
)

// P9.1: each byte by itself.
func TestBytes(t *testing.T) {
	for c := range 256 {
		s := string([]byte{byte(c)})
		switch {
		case s == "|":
			wantProgram(t, s, program(split(1, 2), jump(2), kind(regex.Done)))
		case strings.Contains(noAtom, s):
			wantErrno(t, s, api.ErrForm)
		case !strings.Contains(noByte, s):
			wantProgram(t, s, program(char(s), kind(regex.Done)))
			wantProgram(t, "a"+s+"+", program(char("a"), char(s), split(1, 3), kind(regex.Done)))
		}
	}
	wantProgram(t, ".", program(char(span(0, 255)), kind(regex.Done)))
	wantProgram(t, "^", program(kind(regex.First), kind(regex.Done)))
	wantProgram(t, "$", program(kind(regex.Last), kind(regex.Done)))
}

// P9.1: each byte behind a backslash is that byte, in a class, too.
func TestBytesBehindBackslash(t *testing.T) {
	for c := range 256 {
		s := string([]byte{byte(c)})
		wantProgram(t, `\`+s, program(char(s), kind(regex.Done)))
		wantProgram(t, `\`+s+`?`, program(split(1, 2), char(s), kind(regex.Done)))
		wantProgram(t, `[\`+s+`]`, program(char(s), kind(regex.Done)))
		wantProgram(t, `[^\`+s+`]`, program(regex.Inst{Kind: regex.Char, Set: except(s)}, kind(regex.Done)))
	}
}

// P9.1: a text has two bytes for a letter beyond ASCII, and each is an atom.
func TestBytesBeyondASCII(t *testing.T) {
	wantProgram(t, "é*", program(char("\xc3"), split(2, 4), char("\xa9"), jump(1), kind(regex.Done)))
	wantProgram(t, "[é]", program(char("\xc3\xa9"), kind(regex.Done)))
	wantProgram(t, "[\x80-\xff]", program(char(span(128, 255)), kind(regex.Done)))
}

// P9.1: each byte in a class.
func TestClassBytes(t *testing.T) {
	for c := range 256 {
		s := string([]byte{byte(c)})
		if s == "]" || s == `\` {
			continue
		}
		wantProgram(t, "[a"+s+"]", program(char("a"+s), kind(regex.Done)))
		if s != "^" {
			wantProgram(t, "["+s+"]", program(char(s), kind(regex.Done)))
			wantProgram(t, "["+s+"-]", program(char(s+"-"), kind(regex.Done)))
			wantProgram(t, "["+s+"-"+s+"]", program(char(s), kind(regex.Done)))
		}
		wantProgram(t, "[^"+s+"]", program(regex.Inst{Kind: regex.Char, Set: except(s)}, kind(regex.Done)))
	}
}

// P9.1: all ranges that there are, and those of which the first is above the second.
func TestClassRanges(t *testing.T) {
	for low := range 256 {
		for high := range 256 {
			s := `[\` + string([]byte{byte(low)}) + `-\` + string([]byte{byte(high)}) + `]`
			if low > high {
				wantErrno(t, s, api.ErrForm)
			} else {
				wantProgram(t, s, program(char(span(low, high)), kind(regex.Done)))
			}
		}
	}
}

// P9.1: what stands in a class, by hand.
func TestClasses(t *testing.T) {
	for s, want := range map[string]string{
		"[abc]": "abc", "[aa]": "a", "[cab]": "abc", "[a-c]": "abc", "[a-cx-z]": "abcxyz", "[a-cb-d]": "abcd", "[a-a]": "a", "[ba-cd]": "abcd",
		"[-]": "-", "[--]": "-", "[---]": "-", "[-a]": "-a", "[a-]": "a-", "[-a-]": "a-", "[a-c-]": "abc-", "[a-c--]": "abc-", "[a-c-e]": "abc-e", "[a-c-e-g]": "abc-efg",
		"[+--]": "+,-", "[--/]": "-./", "[+-/]": "+,-./", "[---a]": "-a", "[--/-]": "-./", "[!--a]": span('!', '-') + "a",
		"[a^]": "a^", "[a^b]": "ab^", "[Z-^]": `Z[\]^`, "[Z-^^]": `Z[\]^`, "[a^-c]": "a^_`bc",
		`[\]]`: "]", `[a\]]`: "a]", `[\]a]`: "a]", `[\\]`: `\`, `[\-]`: "-", `[a\-c]`: "ac-", `[\a-\c]`: "abc", `[\a-c]`: "abc", `[a-\c]`: "abc", `[\[-\]]`: `[\]`, `[[-\]]`: `[\]`, `[+-\-]`: "+,-", `[\--/]`: "-./", `[\^]`: "^", `[\^a]`: "^a", `[\]-a]`: "]^_`a", `[\+\-a]`: "+-a",
		"[[]": "[", "[[a]": "[a", "[[[]": "[", "[.]": ".", "[()]": "()", "[(]": "(", "[)]": ")", "[*+?|$.]": "*+?|$.", "[$]": "$", "[a|b]": "a|b", "[ -~]": span(' ', '~'), "[\x00-\xff]": span(0, 255), "[\n]": "\n",
	} {
		wantProgram(t, s, program(char(want), kind(regex.Done)))
	}
}

// P9.1: a ^ right behind the [ takes all others, and the rest is as without it.
func TestClassesOfOthers(t *testing.T) {
	for s, but := range map[string]string{
		"[^a]": "a", "[^^]": "^", "[^^^]": "^", "[^^a]": "^a", "[^a^]": "a^", "[^^-a]": "^_`a", "[^-]": "-", "[^--]": "-", "[^-a]": "-a", "[^a-]": "a-", "[^a-c]": "abc", `[^\]]`: "]", `[^\^]`: "^", "[^[]": "[", "[^---]": "-", "[^\x00-\xff]": span(0, 255), "[^\x80-\xff]": span(128, 255),
	} {
		wantProgram(t, s, program(regex.Inst{Kind: regex.Char, Set: except(but)}, kind(regex.Done)))
	}
}

// P9.1, P9.2: a class ends at its first bracket that closes.
func TestClassEnds(t *testing.T) {
	wantProgram(t, "[a]]", program(char("a"), char("]"), kind(regex.Done)))
	wantProgram(t, "[a-]]", program(char("a-"), char("]"), kind(regex.Done)))
	wantProgram(t, "[a][b]", program(char("a"), char("b"), kind(regex.Done)))
	wantProgram(t, "[*]*", program(split(1, 3), char("*"), jump(0), kind(regex.Done)))
	wantProgram(t, "[^|]|[(]", program(split(1, 3), regex.Inst{Kind: regex.Char, Set: except("|")}, jump(4), char("("), kind(regex.Done)))
}

// P9.2: classes that are none.
func TestWrongClasses(t *testing.T) {
	for _, s := range []string{
		"[", "[^", "[]", "[^]", "[]a]", "[^]a]", "[]]", "[^]]", "[a", "[^a", "[a-", "[^a-", "[a-b", "[-", "[--", "[---", `[\`, `[a\`, `[\]`, `[a-\`, `[a-\]`, `[^\]`, "[b-a]", "[^b-a]", "[z-ab]", "[a-b-a", "[a--]b", "[a--]b]", "[a--0]", "[a-^]", `[\]-\[]`, "[]-a]", "[\xff-\x00]", "[\x80-\x7f]", "a[", "([)", "([)]", "[a|b", "[a-c-b-a]",
	} {
		wantErrno(t, s, api.ErrForm)
	}
}

// P9.2: texts that are no patterns, and those beside them that are.
func TestWrongForms(t *testing.T) {
	for _, s := range []string{
		"*", "+", "?", "*a", "+a", "?a", "a**", "a*+", "a*?", "a+*", "a++", "a+?", "a?*", "a?+", "a??", "(a)**", "[a]++", `\a??`, ".**", "^**", "$+*",
		"(*)", "(+)", "(?)", "(*a)", "(?:a)", "a|*", "|+", "|?a", "*|a", "(|*)", "()**", "a(*",
		"(", "((", "(a", "a(", "(()", "(a|", "a|(", ")", "())", "a)", ")a", "(a))", "a|)", ")(", ")|a", "()a)b",
		`\`, `a\`, `(\`, `(\)`, `a|\`, `\\\`, `a*\`, `\()`,
	} {
		wantErrno(t, s, api.ErrForm)
	}
	for _, s := range []string{
		"", "()", "(())", "()()", "(|)", "|", "||", "a||b", "(a|)", "(|a)", "^*", "$+", "^?", "^^", "$$", "$^", "a^b", "a$b", "(^)", "($|^)*", "()*", "()+", "()?", `\(`, `\)`, `\\`, `\**`, `\*+`, "{", "}", "{1}", "-", "a-b", "]", "]]", "a]*", "(a)*", "((a)*)*", "((a)+)?", "a*b*", "a*|b*", ",/:<>!@#%&~`'\"_=;",
	} {
		l, e := regex.Compile(s)
		if e != api.OK {
			t.Fatalf("%q: %d", s, e)
		}
		wantBounds(t, s, l)
	}
}

// reader goes by the chapter's words another way: it cuts the text into what they name, and looks at those alone.
type reader struct {
	words, spans, ends *regexp.Regexp
}

func newReader() reader {
	const member, begin = `(?:[^\]\\]|\\.)`, `(?:[^\]\\^]|\\.)`
	const span, first = `(?:` + member + `-` + member + `|` + member + `)`, `(?:` + begin + `-` + member + `|` + begin + `)`
	const class = `\[(?:\^` + span + `+|` + first + span + `*)\]`
	return reader{
		words: regexp.MustCompile(`(?s)^(?:\\.|` + class + `|[^\\\[])`),
		spans: regexp.MustCompile(`(?s)` + span),
		ends:  regexp.MustCompile(`(?s)^\\?(.)-\\?(.)$`),
	}
}

func (r reader) isPattern(s string) bool {
	open, isAtom := 0, false
	for s != "" {
		word := r.words.FindString(s)
		if word == "" {
			return false
		}
		s = s[len(word):]
		switch word {
		case "|":
			isAtom = false
		case "(":
			open++
			isAtom = false
		case ")":
			open--
			isAtom = true
		case "*", "+", "?":
			if !isAtom {
				return false
			}
			isAtom = false
		default:
			isAtom = true
		}
		if open < 0 || len(word) > 2 && !r.isRising(word) {
			return false
		}
	}
	return open == 0
}

// isRising tells whether a class has no range of which the first byte is above the second.
func (r reader) isRising(class string) bool {
	class = strings.TrimPrefix(class[1:len(class)-1], "^")
	for _, x := range r.spans.FindAllString(class, -1) {
		if end := r.ends.FindStringSubmatch(x); end != nil && end[1] > end[2] {
			return false
		}
	}
	return true
}

// wantAsRead wants a program of a pattern, and of it alone; it tells whether s is one.
func wantAsRead(t *testing.T, r reader, s string) bool {
	t.Helper()
	l, e := regex.Compile(s)
	want := r.isPattern(s)
	if e != api.OK && e != api.ErrForm || want != (e == api.OK) {
		t.Fatalf("%q: %d, want a pattern: %v", s, e, want)
	}
	if want {
		wantBounds(t, s, l)
	}
	return want
}

// each hands on all texts of these bytes, of at most so many.
func each(bytes string, longest int, hand func(string)) {
	var from func(string)
	from = func(s string) {
		hand(s)
		if len(s) < longest {
			for i := range len(bytes) {
				from(s + bytes[i:i+1])
			}
		}
	}
	from("")
}

// P9.1, P9.2: of all short texts just those have a program that are patterns.
func TestAllShortTexts(t *testing.T) {
	r, count, longest := newReader(), 0, 5
	if testing.Short() {
		longest = 4
	}
	each(`ab-^[]\()*|`, longest, func(s string) {
		if wantAsRead(t, r, s) {
			count++
		}
	})
	if count < 1000 {
		t.Errorf("only %d patterns", count)
	}
}

// P9.1, P9.2: and of longer ones, of all bytes that stand for something.
func TestSomeTexts(t *testing.T) {
	const bytes = `aab--^$..[[[]]]]\(())*+?||`
	r, count, some := newReader(), 0, rand.New(rand.NewSource(91))
	for range 100000 {
		s := make([]byte, 5+some.Intn(12))
		for i := range s {
			s[i] = bytes[some.Intn(len(bytes))]
		}
		if wantAsRead(t, r, string(s)) {
			count++
		}
	}
	if count < 500 {
		t.Errorf("only %d patterns", count)
	}
}
