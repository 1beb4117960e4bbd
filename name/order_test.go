package name_test

import (
	"math/rand"
	"slices"
	"strings"
	"testing"

	"gatepost/api"
	"gatepost/name"
	"gatepost/probe"
)

// byBytes answers the order of two texts, looked at byte by byte: one that the other one begins with is ahead of that.
func byBytes(s, x string) int {
	for i := 0; i < len(s) && i < len(x); i++ {
		switch {
		case s[i] < x[i]:
			return -1
		case s[i] > x[i]:
			return 1
		}
	}
	switch {
	case len(s) < len(x):
		return -1
	case len(s) > len(x):
		return 1
	}
	return 0
}

// orderOf answers the order of two names.
func orderOf(n, m api.Name) int {
	if c := byBytes(n.Ns, m.Ns); c != 0 {
		return c
	}
	return byBytes(n.Sa, m.Sa)
}

// once answers the names in their order, each once, each put at its place.
func once(l []api.Name) []api.Name {
	var sorted []api.Name
	for _, n := range l {
		at := 0
		for at < len(sorted) && orderOf(sorted[at], n) < 0 {
			at++
		}
		if at == len(sorted) || sorted[at] != n {
			sorted = slices.Insert(sorted, at, n)
		}
	}
	return sorted
}

// checkSort tells if the names are sorted otherwise than one by one, or if they are changed.
func checkSort(t *testing.T, l []api.Name) {
	t.Helper()
	got, stays := probe.GuardedRow(l, api.Name{Ns: "behind", Sa: "it"})
	if sorted, want := name.Sort(got...), once(l); !slices.Equal(sorted, want) {
		t.Errorf("Sort(%.1000q): %.1000q, want %.1000q", l, sorted, want)
	}
	if !stays() {
		t.Errorf("Sort(%.1000q): it is changed, or the room behind it", l)
	}
}

// someRow answers names, some of them often more than once; r says which.
func someRow(r *rand.Rand) []api.Name {
	labels := someLabels()
	labels = append(labels, "\x80", "\x7f", someLabel(r))
	few := 1 + r.Intn(len(labels))
	l := make([]api.Name, r.Intn(60))
	for i := range l {
		l[i] = api.Name{Ns: labels[r.Intn(few)], Sa: labels[r.Intn(len(labels))]}
		if r.Intn(8) == 0 {
			l[i] = l[r.Intn(i+1)]
		}
	}
	return l
}

func TestP5_3Cmp(t *testing.T) {
	long := strings.Repeat("a", 1<<16)
	for _, x := range []struct {
		a, b api.Name
		want int
	}{
		{api.Name{}, api.Name{}, 0},
		{api.Name{Ns: "shop", Sa: "web"}, api.Name{Ns: "shop", Sa: "web"}, 0},
		{api.Name{Ns: "a", Sa: "b"}, api.Name{Ns: "b", Sa: "a"}, -1}, // by the namespace first
		{api.Name{Ns: "a", Sa: "z"}, api.Name{Ns: "b", Sa: "a"}, -1},
		{api.Name{Ns: "a", Sa: "a"}, api.Name{Ns: "a", Sa: "b"}, -1},
		{api.Name{Ns: "a", Sa: "z"}, api.Name{Ns: "a-b", Sa: "a"}, -1}, // their texts have the other order
		{api.Name{Ns: "a", Sa: "z"}, api.Name{Ns: "ab", Sa: "a"}, -1},
		{api.Name{Ns: "a", Sa: "bc"}, api.Name{Ns: "ab", Sa: "c"}, -1}, // the same letters in all
		{api.Name{Ns: "", Sa: "abc"}, api.Name{Ns: "abc", Sa: ""}, -1},
		{api.Name{Ns: "shop", Sa: "web"}, api.Name{Ns: "shop", Sa: "web-1"}, -1},
		{api.Name{Ns: "shop", Sa: "web-1"}, api.Name{Ns: "shop", Sa: "web-10"}, -1},
		{api.Name{Ns: "shop", Sa: "web-10"}, api.Name{Ns: "shop", Sa: "web-9"}, -1}, // bytes, no numbers
		{api.Name{Ns: "shop", Sa: "z"}, api.Name{Ns: "shop", Sa: "aa"}, 1},          // not by their lengths
		{api.Name{Ns: "9", Sa: "a"}, api.Name{Ns: "a", Sa: "a"}, -1},
		{api.Name{Ns: "-", Sa: "a"}, api.Name{Ns: "0", Sa: "a"}, -1},
		{api.Name{Ns: "Z", Sa: "a"}, api.Name{Ns: "a", Sa: "a"}, -1}, // large letters are no small ones
		{api.Name{Ns: "A", Sa: "a"}, api.Name{Ns: "a", Sa: "A"}, -1},
		{api.Name{Ns: "", Sa: "z"}, api.Name{Ns: "a", Sa: ""}, -1},
		{api.Name{Ns: "a", Sa: ""}, api.Name{Ns: "a", Sa: "\x00"}, -1},
		{api.Name{Ns: "a\x00b", Sa: "a"}, api.Name{Ns: "a\x00c", Sa: "a"}, -1},
		{api.Name{Ns: "\x7f", Sa: "a"}, api.Name{Ns: "\x80", Sa: "a"}, -1}, // bytes above 127 are above
		{api.Name{Ns: "z", Sa: "a"}, api.Name{Ns: "\xff", Sa: "a"}, -1},
		{api.Name{Ns: "\xff", Sa: "a"}, api.Name{Ns: "\xff\xff", Sa: "a"}, -1},
		{api.Name{Ns: "a", Sa: "\x80"}, api.Name{Ns: "a", Sa: "\xff"}, -1},
		{api.Name{Ns: "\xef\xbf\xbd", Sa: "a"}, api.Name{Ns: "\xff", Sa: "a"}, -1}, // no text, and what stands for none
		{api.Name{Ns: "\uffff", Sa: "a"}, api.Name{Ns: "\U00010000", Sa: "a"}, -1},
		{api.Name{Ns: "e\u0301", Sa: "a"}, api.Name{Ns: "\u00e9", Sa: "a"}, -1},
		{api.Name{Ns: long, Sa: "a"}, api.Name{Ns: long + "a", Sa: ""}, -1},
		{api.Name{Ns: "a", Sa: long + "b"}, api.Name{Ns: "a", Sa: long + "c"}, -1},
		{api.Name{Ns: long, Sa: long}, api.Name{Ns: strings.Clone(long), Sa: strings.Clone(long)}, 0},
	} {
		if got := name.Cmp(x.a, x.b); got != x.want {
			t.Errorf("Cmp(%.100q, %.100q): %d", x.a, x.b, got)
		}
		if got := name.Cmp(x.b, x.a); got != -x.want {
			t.Errorf("Cmp(%.100q, %.100q): %d", x.b, x.a, got)
		}
	}
}

// Each two names of some, of which many may not be.
func TestP5_3CmpAll(t *testing.T) {
	l := someNames()
	for _, a := range l {
		for _, b := range l {
			if got, want := name.Cmp(a, b), orderOf(a, b); got != want {
				t.Fatalf("Cmp(%.100q, %.100q): %d", a, b, got)
			}
		}
	}
}

// Every byte against every one, in the namespace and in the account.
func TestP5_3CmpEachByte(t *testing.T) {
	for x := range 256 {
		for y := range 256 {
			s, z := "a"+string([]byte{byte(x)})+"b", "a"+string([]byte{byte(y)})+"a"
			want := 1 // of the same bytes the last one tells
			if x < y {
				want = -1
			}
			if got := name.Cmp(api.Name{Ns: s, Sa: "a"}, api.Name{Ns: z, Sa: "b"}); got != want {
				t.Errorf("namespaces %q and %q: %d", s, z, got)
			}
			if got := name.Cmp(api.Name{Ns: "a", Sa: s}, api.Name{Ns: "a", Sa: z}); got != want {
				t.Errorf("accounts %q and %q: %d", s, z, got)
			}
		}
	}
}

func TestP5_3Sort(t *testing.T) {
	aa, ab, ba, bb := api.Name{Ns: "a", Sa: "a"}, api.Name{Ns: "a", Sa: "b"}, api.Name{Ns: "b", Sa: "a"}, api.Name{Ns: "b", Sa: "b"}
	none, wrong, high := api.Name{}, api.Name{Ns: "A/", Sa: "-"}, api.Name{Ns: "\xff", Sa: "\x80"}
	for i, x := range []struct{ l, want []api.Name }{
		{nil, nil},
		{[]api.Name{}, nil},
		{[]api.Name{aa}, []api.Name{aa}},
		{[]api.Name{none}, []api.Name{none}},
		{[]api.Name{none, none}, []api.Name{none}},
		{[]api.Name{wrong}, []api.Name{wrong}},
		{[]api.Name{aa, aa}, []api.Name{aa}},
		{[]api.Name{aa, aa, aa, aa}, []api.Name{aa}},
		{[]api.Name{aa, ab}, []api.Name{aa, ab}},
		{[]api.Name{ab, aa}, []api.Name{aa, ab}},
		{[]api.Name{ba, ab, aa}, []api.Name{aa, ab, ba}},
		{[]api.Name{ba, ab, ba, aa}, []api.Name{aa, ab, ba}},
		{[]api.Name{aa, bb, aa, bb, aa}, []api.Name{aa, bb}},
		{[]api.Name{bb, ba, ab, aa, aa, ab, ba, bb}, []api.Name{aa, ab, ba, bb}},
		{[]api.Name{high, aa, wrong, none, aa, high}, []api.Name{none, wrong, aa, high}},
	} {
		if got := name.Sort(x.l...); !slices.Equal(got, x.want) {
			t.Errorf("case %d: Sort(%q): %q", i, x.l, got)
		}
		checkSort(t, x.l)
	}
	if got := name.Sort(); len(got) != 0 {
		t.Errorf("no names: %q", got)
	}
}

// Each row of up to five of some names.
func TestP5_3SortEachRow(t *testing.T) {
	some := []api.Name{{Ns: "a", Sa: "b"}, {Ns: "a", Sa: "a"}, {Ns: "b", Sa: "a"}, {Ns: "", Sa: "\xff"}, {Ns: "a-", Sa: ""}}
	rows := [][]api.Name{nil}
	for range 5 {
		for _, l := range rows {
			checkSort(t, l)
		}
		var longer [][]api.Name
		for _, l := range rows {
			for _, n := range some {
				longer = append(longer, append(slices.Clone(l), n))
			}
		}
		rows = longer
	}
	for _, l := range rows {
		checkSort(t, l)
	}
}

func TestP5_3SortMany(t *testing.T) {
	r := rand.New(rand.NewSource(6))
	for range 500 {
		checkSort(t, someRow(r))
	}
	var l []api.Name
	for range 3000 {
		l = append(l, api.Name{Ns: someLabel(r)[:1], Sa: someLabel(r)})
	}
	checkSort(t, l)
	checkSort(t, once(l))
	slices.Reverse(l)
	checkSort(t, l)
}

// What is sorted is the caller's own: neither the rows nor their texts are those that were handed in.
func TestP5_4SortIsNew(t *testing.T) {
	for _, l := range [][]api.Name{
		{{Ns: "shop", Sa: "web-1"}},
		{{Ns: "a", Sa: "b"}, {Ns: "c", Sa: "d"}},
		{{Ns: "c", Sa: "d"}, {Ns: "a", Sa: "b"}, {Ns: "c", Sa: "d"}},
		{{Ns: strings.Repeat("A", 100), Sa: strings.Repeat("\xff", 100)}, {Ns: "", Sa: "x"}, {}},
	} {
		given := slices.Clone(l)
		for i, n := range l {
			given[i] = api.Name{Ns: strings.Clone(n.Ns), Sa: strings.Clone(n.Sa)}
		}
		first := name.Sort(given...)
		second := name.Sort(given...)
		for _, n := range first {
			for _, m := range append(slices.Clone(given), second...) {
				if shares(n.Ns, m.Ns) || shares(n.Ns, m.Sa) || shares(n.Sa, m.Ns) || shares(n.Sa, m.Sa) {
					t.Errorf("%q shares memory with %q", n, m)
				}
			}
		}
		first = first[:cap(first)]
		for i := range first {
			first[i] = api.Name{Ns: "other", Sa: "other"}
		}
		if want := once(l); !slices.Equal(given, l) || !slices.Equal(second, want) || !slices.Equal(name.Sort(given...), want) {
			t.Errorf("behind a change of what was answered: %q, %q", given, second)
		}
	}
}

// Rows that are sorted, each once, stay as they are too.
func TestP5_4RowsStay(t *testing.T) {
	r := rand.New(rand.NewSource(7))
	for range 200 {
		l := someRow(r)
		for _, row := range [][]api.Name{l, once(l), append(once(l), l...)} {
			got, stays := probe.GuardedRow(row, api.Name{Ns: "behind", Sa: "it"})
			sorted := name.Sort(got...)
			_ = append(sorted, api.Name{Ns: "more", Sa: "more"})
			for i := range sorted {
				sorted[i] = api.Name{}
			}
			if !stays() {
				t.Errorf("%q: it is changed, or the room behind it", row)
			}
		}
	}
}

// Sorted names rise, each was given, each that was given is there, and sorted again they stay.
func TestP5_6Sorted(t *testing.T) {
	r := rand.New(rand.NewSource(8))
	twice := 0
	for range 1000 {
		l := someRow(r)
		sorted := name.Sort(l...)
		for i, n := range sorted {
			if i > 0 && (name.Cmp(sorted[i-1], n) != -1 || name.Cmp(n, sorted[i-1]) != 1) {
				t.Errorf("%.100q does not rise to %.100q", sorted[i-1], n)
			}
			if !slices.Contains(l, n) {
				t.Errorf("%.100q was not given", n)
			}
		}
		for _, n := range l {
			if !slices.Contains(sorted, n) {
				t.Errorf("%.100q was given", n)
			}
		}
		if !slices.Equal(name.Sort(sorted...), sorted) {
			t.Errorf("%.1000q: sorted again it is another row", sorted)
		}
		if len(sorted) < len(l) {
			twice++
		}
	}
	if twice < 500 {
		t.Errorf("%d rows with a name twice: too few", twice)
	}
}
