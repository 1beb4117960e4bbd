package match_test

import (
	"math"
	"math/rand"
	"regexp"
	"strings"

	"gatepost/api"
	"gatepost/probe"
)

// textForm is the words of a term's Text, for the library's expressions: from 33 to 126, but 42 and 44; \z, as $ would let a line's end follow.
var textForm = regexp.MustCompile(`\A[\x21-\x29\x2b\x2d-\x7e]{1,64}\z`)

// text64 is a Text of the most bytes, no two of them alike.
const text64 = "0123456789abcdefghijklmnopqrstuvwxyzABCDEFGHIJKLMNOPQRSTUVWXYZ/-"

// goodTexts are what a term may ask for: each byte alone, one and 64 bytes, and between.
func goodTexts() []string {
	l := []string{
		"ab", "ba", "aa", "bb", "aaa", "aba", "bab", "abc", "xy", "yx", "/a", "/ab", "/a/", "//", ".js", ".", "..", "a.b", "x.js", "GET", "get", "shop", "example.com", "spiffe://mesh/ns/shop/sa/web",
		"a?b", "[a-z]", "(a)", "a|b", "a+", "^a", "a$", "\\", "\\d", "\"a\"", "'", "`", "%2a", "%2c", "a;b", "a=b", "{a}", "!", "~", "!~", "#a", "&", "<>", "@a:b", "_", "true", "nil", "0",
		text64, text64[:63], text64[1:], text64[:32], strings.Repeat("a", 63), strings.Repeat("a", 64), strings.Repeat("b", 64), strings.Repeat("ab", 32), strings.Repeat("!", 64), strings.Repeat("~", 64),
		"a" + strings.Repeat("b", 63), strings.Repeat("b", 63) + "a", "b" + strings.Repeat("a", 63), strings.Repeat("a", 63) + "b",
	}
	for c := 33; c <= 126; c++ {
		if c != '*' && c != ',' {
			l = append(l, string(rune(c)))
		}
	}
	return l
}

// badTexts are what no term may ask for; but for the first one of no kind.
func badTexts() []string {
	l := []string{
		"", "*", "**", "a*", "*a", "a*b", "*a*", "/a*", "*.js", strings.Repeat("*", 64), ",", ",,", "a,", ",a", "a,b", "a*,b*", "*,", ",*", strings.Repeat(",", 64),
		" ", " a", "a ", "a b", "\t", "a\t", "\n", "a\n", "\na", "a\nb", "\r", "a\r\n", "\x00", "a\x00", "\x00a", "a\x00b", "\x01", "\x1f", "\x1fa", "\x7f", "a\x7f", "\x7fa",
		"\x80", "\xa1", "\xff", "a\xff", "\xffa", "a\xffb", "\xc2", "\xc2\xa1", "\u00a0", "\u00e9", "caf\u00e9", "\u0130", "\u012a", "\u012c", "\u0161", "\uff0a", "\uff0c", "\uff41", "\u2217", "\u200ba", "\ufeffa", "a\u0301", "\U0001d41a", "\ufffd", "\U0001012a", "\xc0\xa1", "\xe0\x80\xa1",
		text64 + "a", "a" + text64, text64 + "*", "*" + text64, text64 + ",", text64 + " ", text64 + "\x00", text64 + text64, strings.Repeat("a", 65), strings.Repeat("a", 66), strings.Repeat("a", 127), strings.Repeat("a", 128),
		strings.Repeat("a", 255), strings.Repeat("a", 256), strings.Repeat("a", 257), strings.Repeat("a", 256+64), strings.Repeat("a", 1<<16), strings.Repeat("a", 1<<16+7), strings.Repeat("a", 1<<20), strings.Repeat("*", 1<<20), strings.Repeat("\u00e9", 32), strings.Repeat("\xff", 64),
	}
	for i := range 64 {
		for _, x := range []string{"*", ",", " ", "\x00", "\x7f", "\xff"} {
			l = append(l, text64[:i]+x+text64[i+1:])
		}
	}
	return l
}

// askingKinds are the kinds of terms that ask for a text.
func askingKinds() []int { return []int{api.TermExact, api.TermPrefix, api.TermSuffix} }

// wrongKinds are numbers that no kind has.
func wrongKinds() []int {
	return []int{0, -1, -2, -3, -4, 5, 6, 7, 8, 255, 256, 257, 256 + 4, 1<<16 + 1, 1<<32 + 1, 1<<32 + 4, math.MaxInt32, math.MinInt32, math.MaxInt, math.MinInt, math.MinInt + 1}
}

// termsOf answers a term of each kind that asks, for each of the texts.
func termsOf(texts ...string) []api.Term {
	var l []api.Term
	for _, s := range texts {
		for _, k := range askingKinds() {
			l = append(l, api.Term{Kind: k, Text: s})
		}
	}
	return l
}

// goodTerms are terms that may be.
func goodTerms() []api.Term {
	return append(termsOf(goodTexts()...), api.Term{Kind: api.TermPresent})
}

// badTerms are terms that may not be.
func badTerms() []api.Term {
	l := termsOf(badTexts()...)
	for _, s := range append(badTexts()[1:], goodTexts()...) {
		l = append(l, api.Term{Kind: api.TermPresent, Text: s})
	}
	for _, k := range wrongKinds() {
		for _, s := range []string{"", "a", "*", "a*", "*a", ",", "\xff", text64, text64 + "a"} {
			l = append(l, api.Term{Kind: k, Text: s})
		}
	}
	return l
}

// fewBad are some terms that may not be, for one reason each.
func fewBad() []api.Term {
	l := []api.Term{{}, {Text: "a"}, {Kind: -1, Text: "a"}, {Kind: 5}, {Kind: 5, Text: "a"}, {Kind: api.TermPresent, Text: "a"}, {Kind: api.TermPresent, Text: "*"}}
	return append(l, termsOf("", "*", "a*", "*a", "a,b", "a b", "a\n", "\x00", "\x7f", "\xff", "\u00e9", text64+"a")...)
}

// mayBe tells by the words whether the term may be.
func mayBe(t api.Term) bool {
	switch t.Kind {
	case api.TermExact, api.TermPrefix, api.TermSuffix:
		return textForm.MatchString(t.Text)
	case api.TermPresent:
		return len(t.Text) == 0
	}
	return false
}

// begins tells whether s begins with x.
func begins(s, x string) bool { return len(x) <= len(s) && s[:len(x)] == x }

// ends tells whether s ends with x.
func ends(s, x string) bool { return len(x) <= len(s) && s[len(s)-len(x):] == x }

// isMatched tells by the words whether the term matches s.
func isMatched(t api.Term, s string) bool {
	if !mayBe(t) {
		return false
	}
	switch t.Kind {
	case api.TermExact:
		return len(s) == len(t.Text) && begins(s, t.Text)
	case api.TermPrefix:
		return begins(s, t.Text)
	case api.TermSuffix:
		return ends(s, t.Text)
	}
	return len(s) > 0
}

// textsUpTo answers all texts of at most most of the letters.
func textsUpTo(most int, letters string) []string {
	return probe.Texts(most, strings.Split(letters, "")...)
}

// smallTerms are all terms that may be of at most most of the letters.
func smallTerms(most int, letters string) []api.Term {
	return append(termsOf(textsUpTo(most, letters)[1:]...), api.Term{Kind: api.TermPresent})
}

// someText answers what a term may ask for; r says what.
func someText(r *rand.Rand) string {
	b := make([]byte, 1+r.Intn(4))
	if r.Intn(4) == 0 {
		b = make([]byte, 1+r.Intn(64))
	}
	letters := "ab"
	if r.Intn(2) == 0 {
		letters = text64 + "!~.?"
	}
	for i := range b {
		b[i] = letters[r.Intn(len(letters))]
	}
	return string(b)
}

// someTerm answers a term that may be; r says which.
func someTerm(r *rand.Rand) api.Term {
	k := 1 + r.Intn(4)
	if k == api.TermPresent {
		return api.Term{Kind: k}
	}
	return api.Term{Kind: k, Text: someText(r)}
}

// edited answers s with some bytes put in, taken out or changed; r says which.
func edited(r *rand.Rand, s string) string {
	return probe.Edited(s, "ab**,,/.!~ \n\x00\x7f\x80\xff", r.Intn)
}
