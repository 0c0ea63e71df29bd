package match_test

import (
	"strings"
	"testing"
)

// P10.1: ^ alone, $ alone, and both, at each place of a pattern, with texts that have the bytes at the beginning, in the middle and at the end.
func TestEdges(t *testing.T) {
	for pattern, want := range map[string]map[string][]string{
		"^":     {all: {""}, part: {"a", "abc"}},
		"$":     {all: {""}, part: {"a", "abc"}},
		"^$":    {all: {""}, none: {"a", "abc"}},
		"$^":    {all: {""}, none: {"a", "abc"}},
		"^^":    {all: {""}, part: {"a"}},
		"$$":    {all: {""}, part: {"a"}},
		"^ab":   {all: {"ab"}, part: {"abx", "abab"}, none: {"", "xab", "xabx", "a", "aab"}},
		"ab^":   {none: {"", "ab", "abx", "xab", "abab"}},
		"a^b":   {none: {"", "ab", "abx", "xab", "b", "a"}},
		"ab$":   {all: {"ab"}, part: {"xab", "abab"}, none: {"", "abx", "xabx", "b", "abb"}},
		"$ab":   {none: {"", "ab", "abx", "xab", "abab"}},
		"a$b":   {none: {"", "ab", "abx", "xab", "b", "a"}},
		"^ab$":  {all: {"ab"}, none: {"", "xab", "abx", "xabx", "abab", "a", "b"}},
		"$ab^":  {none: {"", "ab", "abab"}},
		"^a^":   {none: {"", "a", "aa"}},
		"$a$":   {none: {"", "a", "aa"}},
		"^^ab":  {all: {"ab"}, part: {"abx"}, none: {"xab"}},
		"ab$$":  {all: {"ab"}, part: {"xab"}, none: {"abx"}},
		"^.":    {all: {"a"}, part: {"ab"}, none: {""}},
		".$":    {all: {"a"}, part: {"ab"}, none: {""}},
		"^.$":   {all: {"a"}, none: {"", "ab"}},
		".^":    {none: {"", "a", "ab"}},
		"$.":    {none: {"", "a", "ab"}},
		"^a*$":  {all: {"", "a", "aaa"}, none: {"b", "ab", "ba", "aba"}},
		"x*$":   {all: {"", "x", "xx"}, part: {"abx", "xab", "ab"}},
		"^x*":   {all: {"", "x", "xx"}, part: {"abx", "xab", "ab"}},
		"^x+":   {all: {"x", "xx"}, part: {"xab"}, none: {"", "abx"}},
		"x+$":   {all: {"x", "xx"}, part: {"abx"}, none: {"", "xab"}},
		"^a$b":  {none: {"", "a", "ab", "b"}},
		"a$^b":  {none: {"", "a", "ab", "b"}},
		"^a.*b": {all: {"ab", "acb", "abb"}, part: {"abc"}, none: {"cab", "ba", "a"}},
		"a.*b$": {all: {"ab", "acb", "aab"}, part: {"cab"}, none: {"abc", "ba", "b"}},
		`\^`:    {all: {"^"}, part: {"a^"}, none: {"", "a"}},
		`\$`:    {all: {"$"}, part: {"$a"}, none: {"", "a"}},
		`[$]^`:  {none: {"", "$", "a$"}},
	} {
		wantEach(t, pattern, want)
	}
}

// P10.1: within parentheses, and within alternatives.
func TestEdgesWithin(t *testing.T) {
	for pattern, want := range map[string]map[string][]string{
		"(^)a":        {all: {"a"}, part: {"ab"}, none: {"ba", ""}},
		"a($)":        {all: {"a"}, part: {"ba"}, none: {"ab", ""}},
		"(^a)b":       {all: {"ab"}, part: {"abc"}, none: {"cab"}},
		"a(b$)":       {all: {"ab"}, part: {"cab"}, none: {"abc"}},
		"((^)a($))":   {all: {"a"}, none: {"", "aa", "ba", "ab"}},
		"a(^)":        {none: {"", "a", "aa"}},
		"($)a":        {none: {"", "a", "aa"}},
		"^a|b":        {all: {"a", "b"}, part: {"ax", "xb", "xbx"}, none: {"xa", ""}},
		"a|^b":        {all: {"a", "b"}, part: {"bx", "xa", "xax"}, none: {"xb", ""}},
		"a$|b":        {all: {"a", "b"}, part: {"xa", "bx", "xbx"}, none: {"ax", ""}},
		"a|b$":        {all: {"a", "b"}, part: {"xb", "ax", "xax"}, none: {"bx", ""}},
		"^a|b$":       {all: {"a", "b"}, part: {"ax", "xb", "axb"}, none: {"xa", "bx", ""}},
		"^(a|b)$":     {all: {"a", "b"}, none: {"ax", "xb", "ab", ""}},
		"(^a|b)c":     {all: {"ac", "bc"}, part: {"acx", "xbc"}, none: {"xac", "c"}},
		"a(b$|c)":     {all: {"ab", "ac"}, part: {"xab", "acx"}, none: {"abx", "a"}},
		"(^|b)a":      {all: {"a", "ba"}, part: {"ax", "xba"}, none: {"xa", ""}},
		"a($|b)":      {all: {"a", "ab"}, part: {"xa", "abx"}, none: {"ax", ""}},
		"(^|$)":       {all: {""}, part: {"a", "ab"}},
		"^|$":         {all: {""}, part: {"a", "ab"}},
		"(^|$)a":      {all: {"a"}, part: {"ab"}, none: {"ba", ""}},
		"a(^|$)":      {all: {"a"}, part: {"ba"}, none: {"ab", ""}},
		"(^|a)(b|$)":  {all: {"", "a", "b", "ab"}, part: {"bx", "xa", "xab"}, none: {"x", "xb", "ax"}},
		"(^a|^b|c)$":  {all: {"a", "b", "c"}, part: {"xc"}, none: {"xa", "xb", "cx", ""}},
		"^(a|^b|c$)d": {all: {"ad", "bd"}, part: {"adx"}, none: {"cd", "xad", "xbd"}},
	} {
		wantEach(t, pattern, want)
	}
}

// P10.1: with *, + and ? behind: ^ and $ that may be left out hold nothing, and those that may not do.
func TestEdgesRepeated(t *testing.T) {
	for pattern, want := range map[string]map[string][]string{
		"^*":       {all: {""}, part: {"a", "ab"}},
		"^+":       {all: {""}, part: {"a", "ab"}},
		"^?":       {all: {""}, part: {"a", "ab"}},
		"$*":       {all: {""}, part: {"a", "ab"}},
		"$+":       {all: {""}, part: {"a", "ab"}},
		"$?":       {all: {""}, part: {"a", "ab"}},
		"^*a":      {all: {"a"}, part: {"ab", "ba"}, none: {""}},
		"^?a":      {all: {"a"}, part: {"ab", "ba"}, none: {""}},
		"^+a":      {all: {"a"}, part: {"ab"}, none: {"ba", ""}},
		"a$*":      {all: {"a"}, part: {"ab", "ba"}, none: {""}},
		"a$?":      {all: {"a"}, part: {"ab", "ba"}, none: {""}},
		"a$+":      {all: {"a"}, part: {"ba"}, none: {"ab", ""}},
		"(^)*a":    {all: {"a"}, part: {"ba"}},
		"(^)+a":    {all: {"a"}, part: {"ab"}, none: {"ba"}},
		"a($)*":    {all: {"a"}, part: {"ab"}},
		"a($)+":    {all: {"a"}, part: {"ba"}, none: {"ab"}},
		"(^a)*":    {all: {"", "a"}, part: {"aa", "b"}},
		"(^a)*$":   {all: {"", "a"}, part: {"aa", "b"}},
		"^(^a)*$":  {all: {"", "a"}, none: {"aa", "b"}},
		"^(^a|b)*": {all: {"", "a", "ab", "abb", "b"}, part: {"aba", "c"}},
		"(a$)+":    {all: {"a"}, part: {"aa", "ba"}, none: {"ab", ""}},
		"^(a$)*$":  {all: {"", "a"}, none: {"aa", "ab"}},
		"(^|a)*b":  {all: {"b", "ab", "aab"}, part: {"cb"}, none: {"a", ""}},
		"(^|a)+b":  {all: {"b", "ab", "aab"}, part: {"cab"}, none: {"cb", ""}},
		"b($|a)*":  {all: {"b", "ba", "baa"}, part: {"bc"}, none: {"a", ""}},
		"b($|a)+":  {all: {"b", "ba", "baa"}, part: {"bac"}, none: {"bc", ""}},
		"(^*)*a":   {all: {"a"}, part: {"ba"}, none: {""}},
		"(^+)+a":   {all: {"a"}, part: {"ab"}, none: {"ba", ""}},
		"(^$)*":    {all: {""}, part: {"a"}},
		"(^$)+":    {all: {""}, none: {"a"}},
		"(a|^$)+":  {all: {"", "a", "aa"}, part: {"ba"}, none: {"b"}},
		"(^a$)?b":  {all: {"b"}, part: {"ab", "bc"}, none: {"a", ""}},
	} {
		ends(t, pattern, func() { wantEach(t, pattern, want) })
	}
}

// P10.1: for Find, too, ^ and $ look at the whole text: a part that has its bytes only where the text goes on is none.
func TestEdgesOfFind(t *testing.T) {
	for i := range 6 {
		for j := range 6 {
			text := strings.Repeat("x", i) + "ab" + strings.Repeat("x", j)
			wantFits(t, "ab", text, true, i+j == 0)
			wantFits(t, "^ab", text, i == 0, i+j == 0)
			wantFits(t, "ab$", text, j == 0, i+j == 0)
			wantFits(t, "^ab$", text, i+j == 0, i+j == 0)
			wantFits(t, "^ab|ab$", text, i == 0 || j == 0, i+j == 0)
			wantFits(t, "^x*ab", text, true, j == 0)
			wantFits(t, "abx*$", text, true, i == 0)
			wantFits(t, "^x*abx*$", text, true, true)
			wantFits(t, "x^ab", text, false, false)
			wantFits(t, "ab$x", text, false, false)
		}
	}
}

// P10.1: at the edges of as long a text as may be.
func TestEdgesOfLongTexts(t *testing.T) {
	a := strings.Repeat("a", 255)
	for _, x := range []struct {
		pattern, text string
		find, whole   bool
	}{
		{"^b", "b" + a, true, false}, {"^b", a + "b", false, false}, {"b$", a + "b", true, false}, {"b$", "b" + a, false, false},
		{"^a*b$", a + "b", true, true}, {"^ba*$", "b" + a, true, true}, {"^a+$", a + "a", true, true}, {"^a+$", a + "b", false, false},
		{"b", a + "b", true, false}, {"b", "b" + a, true, false}, {"ab", a + "b", true, false}, {"ba", "b" + a, true, false},
		{"$", a + "b", true, false}, {"^", "b" + a, true, false},
	} {
		wantFits(t, x.pattern, x.text, x.find, x.whole)
	}
}
