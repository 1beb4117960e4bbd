package match_test

import (
	"math/rand"
	"slices"
	"strings"
	"testing"

	"gatepost/api"
	"gatepost/match"
	"gatepost/probe"
)

// checkMay tells if the term is taken otherwise than by the words, and answers whether it may be.
func checkMay(t *testing.T, x api.Term) bool {
	t.Helper()
	want := mayBe(x)
	if match.May(x) != want {
		t.Errorf("May(%d, %.200q): %v", x.Kind, x.Text, !want)
	}
	return want
}

func TestP7_1GoodTerms(t *testing.T) {
	for _, x := range goodTerms() {
		if !match.May(x) || !checkMay(t, x) {
			t.Errorf("%d, %q may be", x.Kind, x.Text)
		}
	}
}

func TestP7_1BadTerms(t *testing.T) {
	for _, x := range append(badTerms(), fewBad()...) {
		if match.May(x) || checkMay(t, x) {
			t.Errorf("%d, %.200q may not be", x.Kind, x.Text)
		}
	}
}

// Each number near the kinds', with and without a text.
func TestP7_1EachKind(t *testing.T) {
	may := 0
	for k := -300; k <= 300; k++ {
		for _, s := range []string{"", "a", text64} {
			if checkMay(t, api.Term{Kind: k, Text: s}) {
				may++
			}
		}
	}
	if may != 7 {
		t.Errorf("%d may be", may)
	}
}

// Every byte, alone, and at every place of texts, put in or in the place of another one, for every kind.
func TestP7_1EachByte(t *testing.T) {
	for _, k := range []int{0, 1, 2, 3, 4, 5} {
		alone := 0
		for c := range 256 {
			if checkMay(t, api.Term{Kind: k, Text: string([]byte{byte(c)})}) {
				alone++
			}
		}
		if want := map[int]int{1: 92, 2: 92, 3: 92}[k]; alone != want {
			t.Errorf("kind %d: %d texts of one byte", k, alone)
		}
		for _, s := range []string{"", "a", "ab", "/a.js", text64[:62], text64[:63], text64} {
			for near := range probe.Near(s) {
				checkMay(t, api.Term{Kind: k, Text: near})
			}
		}
	}
}

// Texts of all lengths near the limit and far beyond it: bytes count, not letters.
func TestP7_1Lengths(t *testing.T) {
	for n := range 600 {
		for _, s := range []string{"a", "!", "~", "*", ",", "\u00e9", "\xff"} {
			for _, x := range termsOf(strings.Repeat(s, n), strings.Repeat("a", n)+s, s+strings.Repeat("a", n)) {
				checkMay(t, x)
			}
			if may, want := mayBe(api.Term{Kind: 1, Text: strings.Repeat(s, n)}), n >= 1 && n <= 64 && strings.Contains("a!~", s); may != want {
				t.Fatalf("the expression takes %d times %q otherwise than the words", n, s)
			}
		}
	}
}

func TestP7_1Rows(t *testing.T) {
	good := goodTerms()
	if !match.MayAll() || !match.MayAll([]api.Term{}...) || !match.MayAll(nil...) {
		t.Error("no terms may be")
	}
	for n := range 40 {
		want := n <= 6
		if got := match.MayAll(good[:n]...); got != want {
			t.Errorf("%d terms: %v", n, got)
		}
		if got := match.MayAll(slices.Repeat(good[:1], n)...); got != want {
			t.Errorf("a term %d times: %v", n, got)
		}
		if got := match.MayAll(slices.Repeat([]api.Term{{Kind: api.TermPresent}}, n)...); got != want {
			t.Errorf("a term that asks for no text %d times: %v", n, got)
		}
		if got := match.MayAll(slices.Repeat([]api.Term{{}}, n)...); got != (n == 0) {
			t.Errorf("%d terms of no kind: %v", n, got)
		}
	}
	for _, n := range []int{256, 256 + 6, 1 << 16, 1<<16 + 1} {
		if match.MayAll(slices.Repeat(good[:1], n)...) {
			t.Errorf("%d terms may be", n)
		}
	}
}

// A term that may not be, at each place of rows of each length.
func TestP7_1RowsWithBadTerms(t *testing.T) {
	good := goodTerms()
	for _, bad := range badTerms() {
		if match.MayAll(bad) || match.MayAll(bad, good[0]) || match.MayAll(good[0], bad) {
			t.Errorf("rows with %d, %.200q may be", bad.Kind, bad.Text)
		}
	}
	for _, bad := range fewBad() {
		for n := range 8 {
			for at := range n {
				l := slices.Clone(good[:n])
				l[at] = bad
				if match.MayAll(l...) {
					t.Errorf("%d terms, at %d %d, %.200q, may be", n, at, bad.Kind, bad.Text)
				}
			}
		}
	}
}

// checkMatches tells if the term matches s otherwise than by the words, and answers whether it does.
func checkMatches(t *testing.T, x api.Term, s string) bool {
	t.Helper()
	want := isMatched(x, s)
	if match.Matches(x, s) != want {
		t.Errorf("Matches(%d, %.200q; %.200q): %v", x.Kind, x.Text, s, !want)
	}
	return want
}

func TestP7_2Examples(t *testing.T) {
	a := api.Term{Kind: api.TermPrefix, Text: "/a"}
	if !match.Matches(a, "/a") || !match.Matches(a, "/ab") || match.Matches(a, "/") {
		t.Error("what begins with /a")
	}
}

func TestP7_2Matches(t *testing.T) {
	exact, prefix, suffix, present := api.TermExact, api.TermPrefix, api.TermSuffix, api.TermPresent
	for _, x := range []struct {
		kind    int
		text, s string
		want    bool
	}{
		{exact, "ab", "ab", true}, {exact, "ab", "a", false}, {exact, "ab", "b", false}, {exact, "ab", "abc", false}, {exact, "ab", "xab", false}, {exact, "ab", "ba", false}, {exact, "ab", "", false}, {exact, "ab", "AB", false}, {exact, "ab", "ab ", false}, {exact, "ab", "ab\x00", false}, {exact, "ab", "abab", false}, {exact, "a", "ab*", false},
		{prefix, "ab", "ab", true}, {prefix, "ab", "abc", true}, {prefix, "ab", "abab", true}, {prefix, "ab", "ab\x00\xff*,", true}, {prefix, "ab", "a", false}, {prefix, "ab", "", false}, {prefix, "ab", "xab", false}, {prefix, "ab", "b", false}, {prefix, "ab", "Ab", false}, {prefix, "ab", " ab", false}, {prefix, "ab", "acab", false},
		{suffix, "ab", "ab", true}, {suffix, "ab", "xab", true}, {suffix, "ab", "abab", true}, {suffix, "ab", "\x00\xff*,ab", true}, {suffix, "ab", "b", false}, {suffix, "ab", "", false}, {suffix, "ab", "abx", false}, {suffix, "ab", "a", false}, {suffix, "ab", "aB", false}, {suffix, "ab", "ab\n", false}, {suffix, "ab", "abcb", false},
		{present, "", "", false}, {present, "", "a", true}, {present, "", "ab", true}, {present, "", " ", true}, {present, "", "*", true}, {present, "", ",", true}, {present, "", "\x00", true}, {present, "", "\xff", true}, {present, "", "\u00e9", true}, {present, "", strings.Repeat("a", 1<<20), true},
		{prefix, "[a", "[a-z]", true}, {exact, "a.c", "abc", false}, {exact, "a?", "ab", false}, {suffix, "$", "a$", true}, {exact, "\\d", "1", false}, {exact, "%2a", "*", false},
		{exact, text64, text64, true}, {exact, text64, text64[:63], false}, {exact, text64, text64 + "a", false}, {prefix, text64, text64 + "a", true}, {prefix, text64, text64[:63], false}, {suffix, text64, "a" + text64, true}, {suffix, text64, text64[1:], false},
		{prefix, "ab", "ab" + strings.Repeat("c", 1<<20), true}, {suffix, "ab", strings.Repeat("c", 1<<20) + "ab", true}, {exact, "ab", "ab" + strings.Repeat("\x00", 1<<20), false},
	} {
		term := api.Term{Kind: x.kind, Text: x.text}
		if got := match.Matches(term, x.s); got != x.want || checkMatches(t, term, x.s) != x.want {
			t.Errorf("%d, %q; %.200q: %v", x.kind, x.text, x.s, got)
		}
	}
}

// All terms of few letters, with all texts of few more.
func TestP7_2MatchesSmall(t *testing.T) {
	for _, letters := range []string{"ab", "!~", "/x"} {
		texts := textsUpTo(5, letters+"*")
		matched := 0
		for _, x := range append(smallTerms(3, letters), fewBad()...) {
			for _, s := range texts {
				if checkMatches(t, x, s) {
					matched++
				}
			}
		}
		if matched < 1000 {
			t.Errorf("%q: %d are matched: too few", letters, matched)
		}
	}
}

// What is a byte away from what a term asks for.
func TestP7_2MatchesNear(t *testing.T) {
	for _, text := range []string{"a", "ab", "/a.js", "aaa", "[x]", text64} {
		for _, x := range append(termsOf(text), api.Term{Kind: api.TermPresent}) {
			matched := 0
			for s := range probe.Near(text) {
				if checkMatches(t, x, s) {
					matched++
				}
			}
			if matched == 0 {
				t.Errorf("%d, %q: nothing near is matched", x.Kind, x.Text)
			}
		}
	}
}

// Not even what would be it, if it might be.
func TestP7_2BadTermsMatchNothing(t *testing.T) {
	for _, x := range badTerms() {
		for _, s := range []string{"", "a", "b", "*", ",", x.Text, x.Text + "a", "a" + x.Text, strings.Trim(x.Text, "*"), "a*", "*a", text64, "\x00", "\xff"} {
			if match.Matches(x, s) || match.Any(s, x) || match.Any(s, x, x) || match.Lets(s, x) || match.Lets(s, x, x) {
				t.Errorf("%d, %.200q matches %.200q", x.Kind, x.Text, s)
			}
		}
	}
}

func TestP7_2Rows(t *testing.T) {
	a, b, none := api.Term{Kind: api.TermExact, Text: "a"}, api.Term{Kind: api.TermPrefix, Text: "b"}, api.Term{}
	for i, x := range []struct {
		s         string
		l         []api.Term
		any, lets bool
	}{
		{"a", nil, false, true},
		{"", nil, false, true},
		{"", []api.Term{}, false, true},
		{"\xff", nil, false, true},
		{"a", []api.Term{a}, true, true},
		{"b", []api.Term{a}, false, false},
		{"", []api.Term{a}, false, false},
		{"a", []api.Term{b, a}, true, true},
		{"a", []api.Term{a, b}, true, true},
		{"bx", []api.Term{a, b}, true, true},
		{"x", []api.Term{a, b}, false, false},
		{"a", []api.Term{none}, false, false},
		{"", []api.Term{none}, false, false},
		{"a", []api.Term{none, a}, true, true},
		{"a", []api.Term{a, none}, true, true},
		{"x", []api.Term{none, a, none, b, none}, false, false},
		{"", []api.Term{{Kind: api.TermPresent}}, false, false},
		{" ", []api.Term{{Kind: api.TermPresent}}, true, true},
	} {
		if got := match.Any(x.s, x.l...); got != x.any {
			t.Errorf("case %d: Any: %v", i, got)
		}
		if got := match.Lets(x.s, x.l...); got != x.lets {
			t.Errorf("case %d: Lets: %v", i, got)
		}
	}
}

// Rows that are longer than they may be are asked all the same: the one that matches stands at each place.
func TestP7_2LongRows(t *testing.T) {
	other := api.Term{Kind: api.TermExact, Text: "b"}
	for n := range 20 {
		l := slices.Repeat([]api.Term{other}, n)
		if match.Any("a", l...) || match.Lets("a", l...) != (n == 0) {
			t.Errorf("%d that do not match", n)
		}
		for at := range n {
			row := slices.Clone(l)
			row[at] = api.Term{Kind: api.TermExact, Text: "a"}
			if !match.Any("a", row...) || !match.Lets("a", row...) {
				t.Errorf("%d terms, the one at %d matches", n, at)
			}
		}
	}
}

// All rows of up to three of some terms.
func TestP7_2EachRow(t *testing.T) {
	terms := append(termsOf("a", "ab"), api.Term{Kind: api.TermPresent}, api.Term{}, api.Term{Kind: api.TermPresent, Text: "a"})
	texts := textsUpTo(3, "ab")
	for _, l := range probe.Rows(3, terms...) {
		for _, s := range texts {
			want := false
			for _, x := range l {
				want = want || isMatched(x, s)
			}
			if match.Any(s, l...) != want {
				t.Errorf("Any(%q, %v): %v", s, l, !want)
			}
			if lets := match.Lets(s, l...); lets != (want || len(l) == 0) {
				t.Errorf("Lets(%q, %v): %v", s, l, lets)
			}
		}
	}
}

// checkStays tells if a call changes the row, or the room behind its end; each call has a row of its own, as two could undo one another.
func checkStays(t *testing.T, row []api.Term) {
	t.Helper()
	for i, call := range []func(s string, l ...api.Term) bool{
		func(_ string, l ...api.Term) bool { return match.MayAll(l...) },
		match.Any,
		match.Lets,
	} {
		for _, s := range []string{"", "a", "behind", text64} {
			l, stays := probe.GuardedRow(row, api.Term{Kind: api.TermExact, Text: "behind"})
			call(s, l...)
			if !stays() {
				t.Errorf("call %d, %v: it is changed, or the room behind it", i, row)
			}
		}
	}
}

func TestP7_5RowsStay(t *testing.T) {
	r := rand.New(rand.NewSource(1))
	good, bad := goodTerms(), fewBad()
	for n := range 10 {
		for range 20 {
			row := make([]api.Term, n)
			for i := range row {
				row[i] = good[r.Intn(len(good))]
				if r.Intn(8) == 0 {
					row[i] = bad[r.Intn(len(bad))]
				}
			}
			checkStays(t, row)
		}
	}
}

// What stands behind a row's end is not asked.
func TestP7_5RoomBehindARow(t *testing.T) {
	l, _ := probe.GuardedRow([]api.Term{{Kind: api.TermExact, Text: "a"}}, api.Term{Kind: api.TermExact, Text: "behind"})
	if match.Any("behind", l...) || match.Lets("behind", l...) || !match.Lets("behind", l[:0]...) {
		t.Error("a term behind the end is asked")
	}
}
