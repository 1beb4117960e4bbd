package heads_test

import (
	"fmt"
	"math/rand"
	"slices"
	"testing"

	"gatepost/api"
	"gatepost/heads"
	"gatepost/probe"
)

// row answers headers of names and values in turn.
func row(l ...string) []api.Head {
	var out []api.Head
	for i := 0; i < len(l); i += 2 {
		out = append(out, api.Head{Name: l[i], Value: l[i+1]})
	}
	return out
}

// split answers by the words the values of that name, and the headers of other ones.
func split(name string, l []api.Head) (values []string, others []api.Head) {
	others = slices.DeleteFunc(slices.Clone(l), func(h api.Head) bool {
		if h.Name == name {
			values = append(values, h.Value)
		}
		return h.Name == name
	})
	return values, others
}

// checkNamed tells if the headers of that name are told of otherwise than by the words, and answers how many there are.
func checkNamed(t *testing.T, name string, l []api.Head) int {
	t.Helper()
	values, others := split(name, l)
	first, ok := "", len(values) > 0
	if ok {
		first = values[0]
	}
	if got, gotOk := heads.Get(name, l...); got != first || gotOk != ok {
		t.Errorf("Get(%.100q, %.500q): %.100q, %v", name, l, got, gotOk)
	}
	if got := heads.All(name, l...); !slices.Equal(got, values) {
		t.Errorf("All(%.100q, %.500q): %.500q", name, l, got)
	}
	if got := heads.Del(name, l...); !slices.Equal(got, others) {
		t.Errorf("Del(%.100q, %.500q): %.500q", name, l, got)
	}
	return len(values)
}

// checkAdd tells if the header is added otherwise than by the words.
func checkAdd(t *testing.T, l []api.Head, h api.Head) {
	t.Helper()
	var want []api.Head
	wantErr := api.OK
	switch {
	case !isHead(h):
		wantErr = api.ErrArg
	case len(l) >= 24:
		wantErr = api.ErrFull
	default:
		want = slices.Concat(l, []api.Head{h})
	}
	if got, err := heads.Add(l, h); !slices.Equal(got, want) || err != wantErr {
		t.Errorf("Add(%.500q, %.200q): %.500q, %d; want %d", l, h, got, err, wantErr)
	}
}

func TestP9_3Named(t *testing.T) {
	l := row("a", "1", "b", "2", "a", "3", "", "4", "A", "5", "c", "", "a", "1")
	for name, want := range map[string][]string{"a": {"1", "3", "1"}, "b": {"2"}, "": {"4"}, "A": {"5"}, "c": {""}, "d": nil, "B": nil, " a": nil, "a ": nil, "aa": nil, "ab": nil, "\x00": nil, "1": nil} {
		if got := heads.All(name, l...); !slices.Equal(got, want) {
			t.Errorf("All(%q): %q", name, got)
		}
		if n := checkNamed(t, name, l); n != len(want) {
			t.Errorf("%q: %d", name, n)
		}
		checkNamed(t, name, nil)
		checkNamed(t, name, []api.Head{})
	}
	if v, ok := heads.Get("a", l...); v != "1" || !ok {
		t.Errorf("the first one of a: %q, %v", v, ok)
	}
	if v, ok := heads.Get("c", l...); v != "" || !ok {
		t.Errorf("one without bytes: %q, %v", v, ok)
	}
	if v, ok := heads.Get("d", l...); v != "" || ok {
		t.Errorf("none: %q, %v", v, ok)
	}
	if got := heads.Del("a", l...); !slices.Equal(got, row("b", "2", "", "4", "A", "5", "c", "")) {
		t.Errorf("Del(a): %q", got)
	}
	if got := heads.Del("a", row("a", "1", "a", "2")...); len(got) != 0 {
		t.Errorf("all gone: %q", got)
	}
	if got := heads.Del("d", l...); !slices.Equal(got, l) {
		t.Errorf("none gone: %q", got)
	}
}

// Names are taken as they are: neither letters' size nor blanks are passed over, and what may not be a name is found, too.
func TestP9_3NamesAsTheyAre(t *testing.T) {
	names := []string{"host", "Host", "HOST", " host", "host ", "host:", "hos", "hostt", "", "\u212a", "k", "K", "\u017f", "s", "\xff", "\ufffd", "a\x00", "a", letters64, letters64 + "a"}
	var l []api.Head
	for _, s := range names {
		l = append(l, api.Head{Name: s, Value: "of " + s})
	}
	for i, s := range names {
		if n := checkNamed(t, s, l); n != 1 {
			t.Errorf("%q: %d", s, n)
		}
		if v, ok := heads.Get(s, l...); v != "of "+s || !ok {
			t.Errorf("%q: %q, %v", s, v, ok)
		}
		if got := heads.Del(s, l...); !slices.Equal(got, slices.Delete(slices.Clone(l), i, i+1)) {
			t.Errorf("%q is gone: %q", s, got)
		}
	}
}

func TestP9_3NamedSmall(t *testing.T) {
	for _, l := range probe.Rows(5, row("a", "1", "a", "2", "b", "1", "", "")...) {
		n := 0
		for _, name := range []string{"a", "b", ""} {
			n += checkNamed(t, name, l)
		}
		if n != len(l) || checkNamed(t, "c", l) != 0 {
			t.Errorf("%q: %d are named", l, n)
		}
	}
}

// Rows longer than headers may be, and headers that may not be, are looked through all the same.
func TestP9_3NamedMany(t *testing.T) {
	r := rand.New(rand.NewSource(6))
	for range 20000 {
		l := someRow(r)
		for _, name := range []string{"a", "host", "Host", "", "content-length", "x"} {
			checkNamed(t, name, l)
		}
	}
	bad := badHeads()
	for _, h := range bad {
		if checkNamed(t, h.Name, []api.Head{{Name: "host"}, h, {Name: "host"}}) == 0 {
			t.Errorf("%.100q is not found", h.Name)
		}
	}
	checkNamed(t, "x", bad)
	long := slices.Repeat(row("a", "1", "b", "2", "b", "3"), 10000)
	for _, name := range []string{"a", "b", "c"} {
		checkNamed(t, name, long)
	}
}

func TestP9_3Add(t *testing.T) {
	for _, h := range goodHeads() {
		checkAdd(t, nil, h)
		checkAdd(t, []api.Head{}, h)
		checkAdd(t, row("a", "1", "b", "2"), h)
		checkAdd(t, []api.Head{h, h}, h)
	}
	for _, h := range badHeads() {
		for _, l := range [][]api.Head{nil, row("a", "1"), slices.Repeat(row("a", "1"), 24), slices.Repeat(row("a", "1"), 25)} {
			if got, err := heads.Add(l, h); got != nil || err != api.ErrArg {
				t.Errorf("Add of %.200q to %d: %.200q, %d", h, len(l), got, err)
			}
		}
	}
	// What is there already is not asked whether it may be.
	for _, l := range probe.Rows(2, fewBad()...) {
		checkAdd(t, l, api.Head{Name: "a", Value: "1"})
	}
}

func TestP9_3AddFull(t *testing.T) {
	good := goodHeads()
	for n := range 60 {
		got, err := heads.Add(good[:n], api.Head{Name: "a", Value: "1"})
		switch {
		case n < 24 && (err != api.OK || len(got) != n+1 || got[n] != api.Head{Name: "a", Value: "1"}):
			t.Errorf("%d headers and one: %q, %d", n, got, err)
		case n >= 24 && (err != api.ErrFull || got != nil):
			t.Errorf("%d headers and one: %q, %d", n, got, err)
		}
		checkAdd(t, good[:n], good[n])
		for _, bad := range fewBad() {
			checkAdd(t, good[:n], bad)
			checkAdd(t, slices.Repeat([]api.Head{bad}, n), good[0])
		}
	}
	for _, n := range []int{256, 1 << 16} {
		checkAdd(t, slices.Repeat(good[:1], n), good[0])
	}
	var l []api.Head
	err := api.OK
	for n := 0; err == api.OK; n++ {
		if len(l) != n || !heads.May(l...) {
			t.Fatalf("%d were added: %q", n, l)
		}
		if n == 24 {
			break
		}
		l, err = heads.Add(l, good[n])
	}
	if !slices.Equal(l, good[:24]) || err != api.OK {
		t.Errorf("one by one: %q, %d", l, err)
	}
}

// toldOf answers in new memory whatever the calls for rows tell of these headers.
func toldOf(l []api.Head) string {
	v, ok := heads.Get("a", l...)
	more, err := heads.Add(l, api.Head{Name: "x", Value: "y"})
	frame, err2 := heads.Framing(l...)
	return fmt.Sprintf("%v %q %v %q %q %d %q %v %d", heads.May(l...), v, ok, heads.All("a", l...), more, err, heads.Del("a", l...), frame, err2)
}

// rows are some that are kept, and changed, to see that no call shares them.
func rows() [][]api.Head {
	return [][]api.Head{
		nil, row("a", "1"), row("b", "1"), row("a", "1", "b", "2", "a", "3"), row("a", "1", "a", "2"), row("host", "a.b", "content-length", "5"), row("", "", "A", " ", "a", "\xff"),
		row("transfer-encoding", "Chunked", "a", "b"), slices.Repeat(row("a", "1", "b", "2"), 12), slices.Repeat(row("a", "1", "b", "2"), 20), row(letters64, value512, "a", value512),
	}
}

func TestP9_5RowsStay(t *testing.T) {
	r := rand.New(rand.NewSource(7))
	all := rows()
	for range 500 {
		all = append(all, someRow(r))
	}
	for _, l := range all {
		given, stays := probe.GuardedRow(l, api.Head{Name: "behind", Value: "it"})
		if first := toldOf(given); toldOf(given) != first || toldOf(slices.Clone(l)) != first || !stays() {
			t.Errorf("%.500q: it is changed, or told of otherwise", l)
		}
	}
}

// What is answered stays as it is, whatever becomes of the rows and the texts that were handed in.
func TestP9_5RowsAreNew(t *testing.T) {
	for _, l := range rows() {
		given, scrub := lent(l)
		header, scrubHeader := lent(row("x", "y"))
		v, _ := heads.Get("a", given...)
		values, left := heads.All("a", given...), heads.Del("a", given...)
		more, _ := heads.Add(given, header[0])
		all := heads.Del("c", given...)
		before := fmt.Sprintf("%q %q %q %q %q", v, values, left, more, all)
		scrub()
		scrubHeader()
		if now := fmt.Sprintf("%q %q %q %q %q", v, values, left, more, all); now != before {
			t.Errorf("%.1000q is %.1000q behind a change of what was given", before, now)
		}
	}
}

// No two answers are in one memory: what becomes of one, or is put behind it, is seen in no other one, and not in what was given.
func TestP9_5AnswersAreApart(t *testing.T) {
	for _, l := range rows() {
		given := slices.Clone(l)
		want := toldOf(given)
		for range 2 {
			more, _ := heads.Add(given, api.Head{Name: "x", Value: "y"})
			for _, out := range [][]api.Head{heads.Del("a", given...), heads.Del("c", given...), more} {
				out = append(out, api.Head{Name: "more", Value: "it"})
				out = out[:cap(out)]
				for i := range out {
					out[i] = api.Head{Name: "other", Value: "one"}
				}
			}
			values := append(heads.All("a", given...), "more")
			for i := range values {
				values[i] = "other"
			}
			if toldOf(given) != want || !slices.Equal(given, l) {
				t.Errorf("%.500q: told of otherwise behind a change of what was answered", l)
			}
		}
	}
}

func TestP9_8Added(t *testing.T) {
	r := rand.New(rand.NewSource(8))
	added := 0
	for range 20000 {
		l := someRow(r)
		h := someHead(r)
		if r.Intn(2) == 0 {
			h = api.Head{Name: []string{"a", "b", "host"}[r.Intn(3)], Value: fmt.Sprint(r.Intn(9))}
		}
		more, err := heads.Add(l, h)
		if err != api.OK {
			t.Fatalf("%q to %q: %d", h, l, err)
		}
		values := heads.All(h.Name, more...)
		if len(values) == 0 || values[len(values)-1] != h.Value || !slices.Equal(values[:len(values)-1], heads.All(h.Name, l...)) {
			t.Errorf("%q added to %q: %q", h, l, values)
		}
		if !slices.Equal(heads.Del(h.Name, more...), heads.Del(h.Name, l...)) {
			t.Errorf("%q added to %q: the others are %q", h, l, heads.Del(h.Name, more...))
		}
		for _, x := range l {
			if x.Name != h.Name && !slices.Equal(heads.All(x.Name, more...), heads.All(x.Name, l...)) {
				t.Errorf("%q added to %q: %q is %q", h, l, x.Name, heads.All(x.Name, more...))
			}
		}
		if len(values) > 1 {
			added++
		}
	}
	if added < 2000 {
		t.Errorf("%d were added to others of their name: too few", added)
	}
}
