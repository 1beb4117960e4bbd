package match_test

import (
	"math/rand"
	"regexp"
	"strings"
	"testing"
	"unsafe"

	"gatepost/api"
	"gatepost/match"
	"gatepost/probe"
)

// lent answers the term, its Text in memory that can be scrubbed.
func lent(x api.Term) (api.Term, []byte) {
	s, b := lentText(x.Text)
	return api.Term{Kind: x.Kind, Text: s}, b
}

// lentText answers s in memory that can be scrubbed.
func lentText(s string) (string, []byte) {
	b := []byte(s)
	return unsafe.String(unsafe.SliceData(b), len(b)), b
}

// scrub makes each byte of what was lent another one.
func scrub(memory ...[]byte) {
	for _, b := range memory {
		probe.Scrub(b)
	}
}

// printed answers the term's text by the words.
func printed(x api.Term) (string, api.Errno) {
	if !mayBe(x) {
		return "", api.ErrArg
	}
	return map[int]string{api.TermExact: x.Text, api.TermPrefix: x.Text + "*", api.TermSuffix: "*" + x.Text, api.TermPresent: "*"}[x.Kind], api.OK
}

// checkPrint tells if the term has another text than by the words.
func checkPrint(t *testing.T, x api.Term) {
	t.Helper()
	want, wantErr := printed(x)
	if s, err := match.Print(x); s != want || err != wantErr {
		t.Errorf("Print(%d, %.200q): %.200q, %d; want %.200q, %d", x.Kind, x.Text, s, err, want, wantErr)
	}
}

// The words of terms' texts, for the library's expressions.
var (
	exactForm  = regexp.MustCompile(`\A([^*,]+)\z`)
	prefixForm = regexp.MustCompile(`\A([^*,]+)\*\z`)
	suffixForm = regexp.MustCompile(`\A\*([^*,]+)\z`)
)

// parsed answers the term whose text is s by the expressions, and whether there is one.
func parsed(s string) (api.Term, bool) {
	if s == "*" {
		return api.Term{Kind: api.TermPresent}, true
	}
	for k, form := range map[int]*regexp.Regexp{api.TermExact: exactForm, api.TermPrefix: prefixForm, api.TermSuffix: suffixForm} {
		if parts := form.FindStringSubmatch(s); parts != nil && textForm.MatchString(parts[1]) {
			return api.Term{Kind: k, Text: parts[1]}, true
		}
	}
	return api.Term{}, false
}

// checkParse tells if s is read otherwise than by the expressions, and answers whether it is a term's text.
func checkParse(t *testing.T, s string) bool {
	t.Helper()
	want, ok := parsed(s)
	wantErr := api.ErrForm
	if ok {
		wantErr = api.OK
	}
	if x, err := match.Parse(s); x != want || err != wantErr {
		t.Errorf("Parse(%.200q): %d, %.200q, %d; want %d, %.200q, %d", s, x.Kind, x.Text, err, want.Kind, want.Text, wantErr)
	}
	return ok
}

func TestP7_4Examples(t *testing.T) {
	if s, err := match.Print(api.Term{Kind: api.TermSuffix, Text: ".js"}); s != "*.js" || err != api.OK {
		t.Errorf("Print: %q, %d", s, err)
	}
	if x, err := match.Parse("*"); x != (api.Term{Kind: api.TermPresent}) || err != api.OK {
		t.Errorf("Parse of *: %v, %d", x, err)
	}
	for _, s := range []string{"a*b", ""} {
		if x, err := match.Parse(s); x != (api.Term{}) || err != api.ErrForm {
			t.Errorf("Parse(%q): %v, %d", s, x, err)
		}
	}
}

func TestP7_4Print(t *testing.T) {
	for x, want := range map[api.Term]string{
		{Kind: api.TermExact, Text: "/a"}:    "/a",
		{Kind: api.TermPrefix, Text: "/a"}:   "/a*",
		{Kind: api.TermSuffix, Text: "/a"}:   "*/a",
		{Kind: api.TermPresent}:              "*",
		{Kind: api.TermExact, Text: text64}:  text64,
		{Kind: api.TermPrefix, Text: text64}: text64 + "*",
		{Kind: api.TermSuffix, Text: text64}: "*" + text64,
	} {
		if s, err := match.Print(x); s != want || err != api.OK {
			t.Errorf("Print(%d, %q): %q, %d", x.Kind, x.Text, s, err)
		}
	}
	for _, x := range goodTerms() {
		checkPrint(t, x)
	}
	for _, x := range badTerms() {
		if s, err := match.Print(x); s != "" || err != api.ErrArg {
			t.Errorf("Print(%d, %.200q): %.200q, %d", x.Kind, x.Text, s, err)
		}
		checkPrint(t, x)
	}
}

func TestP7_4Parse(t *testing.T) {
	for _, s := range goodTexts() {
		for text, want := range map[string]api.Term{s: {Kind: api.TermExact, Text: s}, s + "*": {Kind: api.TermPrefix, Text: s}, "*" + s: {Kind: api.TermSuffix, Text: s}} {
			if x, err := match.Parse(text); x != want || err != api.OK || !checkParse(t, text) {
				t.Errorf("Parse(%q): %d, %q, %d", text, x.Kind, x.Text, err)
			}
		}
	}
	for _, s := range badTexts() {
		for _, text := range []string{s, s + "*", "*" + s, "*" + s + "*", "a" + s, s + "a"} {
			checkParse(t, text)
		}
	}
}

func TestP7_4ParseWrong(t *testing.T) {
	for _, s := range []string{
		"", "**", "***", "****", "a**", "**a", "*a*", "**a*", "*a**", "a*b", "a*b*", "*a*b", "a**b", "*/a*", "/a*/b", strings.Repeat("*", 64), strings.Repeat("*", 65), strings.Repeat("*", 1<<20),
		",", "*,", ",*", "a,", ",a", "a,b", "a*,b", "a*,", "*,*", "a,*", "a,b*", "*a,b",
		" ", "* ", " *", "a ", " a", "a *", "* a", "a b", "a b*", "*a b", "*\n", "\n*", "a\n", "a*\n", "*a\n", "a\t*", "\x00", "*\x00", "\x00*", "a\x00*", "*\x7f", "\x7f*", "a\x7f",
		"\u00e9", "\u00e9*", "*\u00e9", "\xff", "\xff*", "*\xff", "*\x80", "\uff0a", "a\uff0a", "\uff0aa", "a*\uff0a",
		text64 + "a", text64 + "a*", "*" + text64 + "a", "*" + text64 + "*", text64 + "**", "**" + text64, text64 + text64, strings.Repeat("a", 1<<20), strings.Repeat("a", 1<<20) + "*", "*" + strings.Repeat("a", 1<<20),
	} {
		if x, err := match.Parse(s); x != (api.Term{}) || err != api.ErrForm || checkParse(t, s) {
			t.Errorf("Parse(%.200q): %d, %.200q, %d", s, x.Kind, x.Text, err)
		}
	}
}

// All texts of few letters, with stars, commas and others in them.
func TestP7_4ParseSmall(t *testing.T) {
	count := map[int]int{}
	for _, s := range textsUpTo(6, "ab*,") {
		checkParse(t, s)
		x, _ := match.Parse(s)
		count[x.Kind]++
	}
	for k, want := range map[int]int{api.TermExact: 126, api.TermPrefix: 62, api.TermSuffix: 62, api.TermPresent: 1} {
		if count[k] != want {
			t.Errorf("kind %d: %d texts", k, count[k])
		}
	}
}

// Every byte, at every place of texts, put in or in the place of another one; every beginning and end of them.
func TestP7_4ParseEachByte(t *testing.T) {
	for _, s := range []string{"", "*", "a", "a*", "*a", "/a.js", "/a.js*", "*/a.js", text64, text64 + "*", "*" + text64, text64[:63], text64[:63] + "*", "*" + text64[:63]} {
		for near := range probe.Near(s) {
			checkParse(t, near)
		}
	}
}

func TestP7_4ParseEdited(t *testing.T) {
	r := rand.New(rand.NewSource(3))
	fine := 0
	for range 50000 {
		s, _ := printed(someTerm(r))
		if checkParse(t, edited(r, s)) {
			fine++
		}
	}
	if fine < 10000 || fine > 40000 {
		t.Errorf("%d of 50000 texts are terms': not both often", fine)
	}
}

// What is printed, and what is parsed, is new memory.
func TestP7_5TextsAreNew(t *testing.T) {
	for _, x := range goodTerms() {
		want, _ := printed(x)
		given, memory := lent(x)
		s, err := match.Print(given)
		if given != x || err != api.OK {
			t.Errorf("%v: %v, %d", x, given, err)
		}
		text, other := lentText(want)
		back, err := match.Parse(text)
		if text != want || err != api.OK {
			t.Errorf("%q: %q, %d", want, text, err)
		}
		scrub(memory, other)
		if s != want || back != x {
			t.Errorf("%v: %q, %v behind a change of what was given", x, s, back)
		}
	}
}

func TestP7_7ThereAndBack(t *testing.T) {
	r := rand.New(rand.NewSource(4))
	terms := append(goodTerms(), smallTerms(4, "ab")...)
	for range 20000 {
		terms = append(terms, someTerm(r))
	}
	for _, x := range terms {
		s, err := match.Print(x)
		if back, e := match.Parse(s); back != x || err != api.OK || e != api.OK {
			t.Errorf("%v: %q, %d, parsed as %v, %d", x, s, err, back, e)
		}
	}
}

// A text that is parsed is its term's: no term has two.
func TestP7_7TextsBack(t *testing.T) {
	r := rand.New(rand.NewSource(5))
	texts := textsUpTo(5, "ab*,")
	for range 50000 {
		s, _ := printed(someTerm(r))
		texts = append(texts, edited(r, s))
	}
	read := 0
	for _, s := range texts {
		x, err := match.Parse(s)
		if err != api.OK {
			continue
		}
		read++
		if back, err := match.Print(x); back != s || err != api.OK || !match.May(x) {
			t.Errorf("%q is parsed as %v, whose text is %q, %d", s, x, back, err)
		}
	}
	if read < 10000 {
		t.Errorf("%d texts are parsed: too few", read)
	}
}

func TestP7_7Unlike(t *testing.T) {
	of := map[string]api.Term{}
	for _, x := range append(goodTerms(), smallTerms(5, "ab")...) {
		s, err := match.Print(x)
		if y, ok := of[s]; ok && y != x || err != api.OK {
			t.Errorf("%v and %v have the text %q, %d", x, y, s, err)
		}
		of[s] = x
	}
	if len(of) < 400 {
		t.Errorf("%d texts: too few", len(of))
	}
}
