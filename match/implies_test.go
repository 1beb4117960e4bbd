package match_test

import (
	"math/rand"
	"slices"
	"strings"
	"testing"

	"gatepost/api"
	"gatepost/match"
)

// isImplied tells by the words, kind by kind, whether b matches whatever a matches.
func isImplied(a, b api.Term) bool {
	switch {
	case !mayBe(a):
		return true
	case !mayBe(b):
		return false
	case a.Kind == api.TermExact:
		return isMatched(b, a.Text)
	case b.Kind == api.TermPresent:
		return true
	case a.Kind == api.TermPrefix && b.Kind == api.TermPrefix:
		return begins(a.Text, b.Text)
	case a.Kind == api.TermSuffix && b.Kind == api.TermSuffix:
		return ends(a.Text, b.Text)
	}
	return false
}

// isBeside tells by the words whether s is what Beside may answer of a and b.
func isBeside(a, b api.Term, s string) bool {
	for i := range len(s) {
		if s[i] < 33 || s[i] > 126 {
			return false
		}
	}
	return isMatched(a, s) && !isMatched(b, s) && len(s) <= 128
}

// checkImplies tells if it is answered otherwise than want whether a implies b, and what is beside.
func checkImplies(t *testing.T, a, b api.Term, want bool) {
	t.Helper()
	if got := match.Implies(a, b); got != want {
		t.Errorf("Implies(%d, %.200q; %d, %.200q): %v", a.Kind, a.Text, b.Kind, b.Text, got)
	}
	s, ok := match.Beside(a, b)
	if ok == want || !ok && s != "" || ok && !isBeside(a, b, s) {
		t.Errorf("Beside(%d, %.200q; %d, %.200q): %.200q, %v", a.Kind, a.Text, b.Kind, b.Text, s, ok)
	}
}

func TestP7_3Examples(t *testing.T) {
	exact := func(s string) api.Term { return api.Term{Kind: api.TermExact, Text: s} }
	prefix := func(s string) api.Term { return api.Term{Kind: api.TermPrefix, Text: s} }
	suffix := func(s string) api.Term { return api.Term{Kind: api.TermSuffix, Text: s} }
	present := api.Term{Kind: api.TermPresent}
	for i, x := range []struct {
		a, b api.Term
		want bool
	}{
		{exact("ab"), prefix("a"), true},
		{prefix("ab"), prefix("a"), true},
		{prefix("a"), exact("a"), false},
		{suffix("a"), present, true},
		{exact("ab"), exact("ab"), true}, {exact("ab"), exact("a"), false}, {exact("a"), exact("ab"), false}, {exact("ab"), exact("ba"), false},
		{exact("ab"), prefix("ab"), true}, {exact("ab"), prefix("abc"), false}, {exact("ab"), prefix("b"), false}, {exact("ab"), suffix("b"), true}, {exact("ab"), suffix("ab"), true}, {exact("ab"), suffix("a"), false}, {exact("ab"), suffix("xab"), false}, {exact("a"), present, true},
		{prefix("a"), prefix("a"), true}, {prefix("a"), prefix("ab"), false}, {prefix("ab"), prefix("b"), false}, {prefix("a"), suffix("a"), false}, {prefix("aa"), suffix("a"), false}, {prefix("ab"), suffix("ab"), false}, {prefix("a"), present, true},
		{suffix("a"), suffix("a"), true}, {suffix("ba"), suffix("a"), true}, {suffix("a"), suffix("ba"), false}, {suffix("ab"), suffix("a"), false}, {suffix("a"), prefix("a"), false}, {suffix("aa"), prefix("a"), false}, {suffix("ab"), prefix("ab"), false}, {suffix("a"), exact("a"), false},
		{present, present, true}, {present, exact("a"), false}, {present, prefix("a"), false}, {present, suffix("a"), false}, {present, prefix("!"), false}, {present, suffix("~"), false},
	} {
		if got := match.Implies(x.a, x.b); got != x.want || isImplied(x.a, x.b) != x.want {
			t.Errorf("case %d: %v", i, got)
		}
		checkImplies(t, x.a, x.b, x.want)
	}
}

// All terms of up to three of few letters, held against all texts of up to five of these and one letter more: where there is a text beside, there is one of them.
func TestP7_3ImpliesSmall(t *testing.T) {
	for _, letters := range []string{"ab", "xy", "!~", "bc"} {
		texts := textsUpTo(5, letters+"/")
		terms := append(smallTerms(3, letters), fewBad()...)
		matched := make([][]bool, len(terms))
		for i, x := range terms {
			for _, s := range texts {
				matched[i] = append(matched[i], isMatched(x, s))
			}
		}
		for i, a := range terms {
			for j, b := range terms {
				want := true
				for k, is := range matched[i] {
					want = want && (!is || matched[j][k])
				}
				checkImplies(t, a, b, want)
				if isImplied(a, b) != want {
					t.Fatalf("the words kind by kind take %v, %v otherwise than the texts", a, b)
				}
			}
		}
	}
}

// Each two terms that may be: each byte's, and those of the most bytes.
func TestP7_3ImpliesGood(t *testing.T) {
	good := goodTerms()
	implied := 0
	for _, a := range good {
		for _, b := range good {
			want := isImplied(a, b)
			checkImplies(t, a, b, want)
			if want && a != b {
				implied++
			}
		}
	}
	if implied < 1000 {
		t.Errorf("%d imply another one: too few", implied)
	}
}

// A term that may not be implies each, and is implied by those alone that may not be either.
func TestP7_3ImpliesBad(t *testing.T) {
	good, bad := goodTerms(), badTerms()
	for _, b := range bad {
		for _, x := range good[:20] {
			checkImplies(t, b, x, true)
			checkImplies(t, x, b, false)
		}
		for _, x := range fewBad() {
			checkImplies(t, b, x, true)
			checkImplies(t, x, b, true)
		}
	}
	for _, b := range fewBad() {
		for _, x := range good {
			checkImplies(t, b, x, true)
			checkImplies(t, x, b, false)
		}
	}
}

// Texts of which one is a beginning, or an end, of the other one, of all lengths.
func TestP7_3Lengths(t *testing.T) {
	for n := 1; n <= 64; n++ {
		for m := 1; m <= 64; m++ {
			for _, a := range termsOf(text64[:n], text64[64-n:], strings.Repeat("a", n)) {
				for _, b := range termsOf(text64[:m], text64[64-m:], strings.Repeat("a", m)) {
					checkImplies(t, a, b, isImplied(a, b))
				}
			}
		}
	}
}

func TestP7_3ImpliesMany(t *testing.T) {
	r := rand.New(rand.NewSource(2))
	implied := 0
	for range 100000 {
		a, b := someTerm(r), someTerm(r)
		if r.Intn(2) == 0 {
			at := r.Intn(len(a.Text) + 1)
			b.Text = a.Text[at:]
			if b.Kind == api.TermPrefix {
				b.Text = a.Text[:at]
			}
		}
		want := isImplied(a, b)
		checkImplies(t, a, b, want)
		if want {
			implied++
		}
	}
	if implied < 20000 || implied > 80000 {
		t.Errorf("%d of 100000 are implied: not both often", implied)
	}
}

func TestP7_5BesideIsNew(t *testing.T) {
	for _, x := range goodTerms() {
		for _, y := range []api.Term{{}, {Kind: api.TermExact, Text: "z"}, {Kind: api.TermPrefix, Text: "z"}, {Kind: api.TermPresent}} {
			a, memory := lent(x)
			b, other := lent(y)
			s, ok := match.Beside(a, b)
			if a != x || b != y {
				t.Errorf("%v, %v: they are changed", x, y)
			}
			before := strings.Clone(s)
			scrub(memory, other)
			if s != before || ok && !isBeside(x, y, s) {
				t.Errorf("%v, %v: %q is %q behind a change of what was given", x, y, before, s)
			}
		}
	}
}

// What is beside is told of by the package's own calls too.
func TestP7_6BesideAndImplies(t *testing.T) {
	terms := append(smallTerms(3, "ab"), append(fewBad(), goodTerms()[:60]...)...)
	beside := 0
	for _, a := range terms {
		for _, b := range terms {
			s, ok := match.Beside(a, b)
			if ok == match.Implies(a, b) {
				t.Errorf("%v, %v: beside %v, and implied %v", a, b, ok, !ok)
			}
			if ok && (!match.Matches(a, s) || match.Matches(b, s)) {
				t.Errorf("%v, %v: %q is not beside", a, b, s)
			}
			if again, ok2 := match.Beside(a, b); again != s || ok2 != ok {
				t.Errorf("%v, %v: %q beside, asked again %q", a, b, s, again)
			}
			if ok {
				beside++
			}
		}
	}
	if beside < 1000 || beside > len(terms)*len(terms)-1000 {
		t.Errorf("beside %d of %d: not both often", beside, len(terms)*len(terms))
	}
}

// Just if a implies b, each text that a matches is matched by b.
func TestP7_6ImpliesMatches(t *testing.T) {
	terms, texts := append(smallTerms(2, "ab"), fewBad()...), textsUpTo(4, "ab*")
	for _, a := range terms {
		for _, b := range terms {
			implies := match.Implies(a, b)
			missed := slices.ContainsFunc(texts, func(s string) bool { return match.Matches(a, s) && !match.Matches(b, s) })
			if implies == missed {
				t.Errorf("%v, %v: implied %v, and a text beside %v", a, b, implies, missed)
			}
		}
	}
}

func TestP7_6GoesOn(t *testing.T) {
	terms := append(smallTerms(3, "ab"), fewBad()...)
	chains := 0
	for _, a := range terms {
		if !match.Implies(a, a) {
			t.Errorf("%v does not imply itself", a)
		}
		for _, b := range terms {
			if !match.Implies(a, b) {
				continue
			}
			for _, c := range terms {
				if !match.Implies(b, c) {
					continue
				}
				chains++
				if !match.Implies(a, c) {
					t.Errorf("%v implies %v, that %v", a, b, c)
				}
			}
		}
	}
	if chains < 1000 {
		t.Errorf("%d that imply what implies: too few", chains)
	}
}
