package path_test

import (
	"fmt"
	"math/rand"
	"slices"
	"strings"
	"testing"
	"unsafe"

	"gatepost/api"
	"gatepost/path"
	"gatepost/probe"
)

// checkSegments tells if the path's segments are others than by the words, and answers whether it is canonical.
func checkSegments(t *testing.T, s string) bool {
	t.Helper()
	var want []string
	wantErr := api.ErrForm
	if isCanon(s) {
		want, wantErr = strings.FieldsFunc(s, func(r rune) bool { return r == '/' }), api.OK
	}
	if l, err := path.Segments(s); !slices.Equal(l, want) || err != wantErr {
		t.Errorf("Segments(%.100q): %q, %d; want %q, %d", s, l, err, want, wantErr)
	}
	return wantErr == api.OK
}

// joined answers by the words of what segments may be the path that has these, and whether there is one.
func joined(dir bool, l []string) (string, bool) {
	if slices.ContainsFunc(l, func(s string) bool { return isDots(s) || !segForm.MatchString(s) }) {
		return "", false
	}
	s := "/" + strings.Join(l, "/")
	if dir && len(l) > 0 {
		s += "/"
	}
	if len(s) > most {
		return "", false
	}
	return s, true
}

// checkJoin tells if the segments are put together otherwise than by the words, and answers whether they may be.
func checkJoin(t *testing.T, dir bool, l ...string) bool {
	t.Helper()
	want, ok := joined(dir, l)
	wantErr := api.ErrForm
	if ok {
		wantErr = api.OK
	}
	if s, err := path.Join(dir, l...); s != want || err != wantErr {
		t.Errorf("Join(%v, %.100q): %.100q, %d; want %q, %d", dir, l, s, err, want, wantErr)
	}
	return ok
}

func TestP8_3Segments(t *testing.T) {
	for s, want := range map[string][]string{
		"/": nil, "/a": {"a"}, "/a/": {"a"}, "/a/b": {"a", "b"}, "/a/b/": {"a", "b"}, "/b/a/b": {"b", "a", "b"}, "/...": {"..."}, "/..a/.b": {"..a", ".b"}, "/~a%3B/%2541": {"~a%3B", "%2541"}, "/a;b/c=d": {"a;b", "c=d"}, "/%20": {"%20"},
		strings.Repeat("/a", 256): slices.Repeat([]string{"a"}, 256), "/" + strings.Repeat("a", 511): {strings.Repeat("a", 511)}, "/" + strings.Repeat("a", 510) + "/": {strings.Repeat("a", 510)},
	} {
		if l, err := path.Segments(s); !slices.Equal(l, want) || err != api.OK || !checkSegments(t, s) {
			t.Errorf("Segments(%q): %q, %d", s, l, err)
		}
	}
	for _, s := range append(badTargets(), "//", "/a//b", "/.", "/a/..", "/a/../b", "/%41", "/%3b", "/a?", "/a?b", "/?") {
		if l, err := path.Segments(s); l != nil || err != api.ErrForm || checkSegments(t, s) {
			t.Errorf("Segments(%.100q): %q, %d", s, l, err)
		}
	}
}

func TestP8_3SegmentsMany(t *testing.T) {
	r := rand.New(rand.NewSource(3))
	canon := 0
	texts := append(probe.Texts(5, parts()...), goodTargets()...)
	for range 20000 {
		p, _, _ := normal(someTarget(r))
		texts = append(texts, p, edited(r, p))
	}
	for _, s := range texts {
		if checkSegments(t, s) {
			canon++
		}
		checkSegments(t, "/"+s)
	}
	if canon < 20000 {
		t.Errorf("%d are canonical: too few", canon)
	}
}

func TestP8_3Join(t *testing.T) {
	for _, x := range []struct {
		l         []string
		want, dir string
	}{
		{nil, "/", "/"}, {[]string{}, "/", "/"}, {[]string{"a"}, "/a", "/a/"}, {[]string{"a", "b"}, "/a/b", "/a/b/"}, {[]string{"b", "a", "a"}, "/b/a/a", "/b/a/a/"},
		{[]string{"..."}, "/...", "/.../"}, {[]string{"..a", ".b", "c."}, "/..a/.b/c.", "/..a/.b/c./"}, {[]string{"%3B", "%20", "%25", "%252e"}, "/%3B/%20/%25/%252e", "/%3B/%20/%25/%252e/"}, {[]string{"~", "-_", "a;b"}, "/~/-_/a;b", "/~/-_/a;b/"},
	} {
		if s, err := path.Join(false, x.l...); s != x.want || err != api.OK || !checkJoin(t, false, x.l...) {
			t.Errorf("Join(false, %q): %q, %d", x.l, s, err)
		}
		if s, err := path.Join(true, x.l...); s != x.dir || err != api.OK || !checkJoin(t, true, x.l...) {
			t.Errorf("Join(true, %q): %q, %d", x.l, s, err)
		}
	}
}

// Segments that may not be, alone and among others: those that are left out, that are more than one, that have another form, or bytes that no path has.
func TestP8_3JoinWrong(t *testing.T) {
	for _, s := range []string{
		"", ".", "..", "/", "//", "a/", "/a", "a/b", "a//b", "./a", "a/..", "?", "a?", "a?b", "?b", "%2e", "%2E%2E", "%41", "%7e", "%3b", "%c3", "%2F", "%2f", "%5C", "%00", "%1F", "%7F", "%", "%2", "a%", "%zz", "%2g",
		" ", "a b", "a ", "\n", "a\n", "\x00", "\x7f", "#", "a#b", "\"", "<", ">", "\\", "..\\", "^", "`", "{a}", "|", "\u00e9", "\xff", strings.Repeat("a", 512), strings.Repeat("a", 1<<20), strings.Repeat("/", 512), strings.Repeat("a/", 256),
	} {
		for _, l := range [][]string{{s}, {s, "a"}, {"a", s}, {"a", s, "b"}, {"a", "b", s}, {s, s}} {
			for _, dir := range []bool{false, true} {
				if p, err := path.Join(dir, l...); p != "" || err != api.ErrForm || checkJoin(t, dir, l...) {
					t.Errorf("Join(%v, %.100q): %.100q, %d", dir, l, p, err)
				}
			}
		}
	}
}

func TestP8_3JoinLengths(t *testing.T) {
	for n := range 600 {
		a := strings.Repeat("a", n)
		for _, l := range [][]string{{a}, {a, "b"}, {"b", a}, {a, a}, {"b", a, "c"}, slices.Repeat([]string{"a"}, n), slices.Repeat([]string{"ab", "%20"}, n), append([]string{"b"}, slices.Repeat([]string{"a"}, n)...)} {
			whole := 0
			for _, s := range l {
				whole += 1 + len(s)
			}
			may := !slices.Contains(l, "")
			if _, err := path.Join(false, l...); err == api.OK != (may && whole <= 512) {
				t.Errorf("%d bytes of %d segments: %d", whole, len(l), err)
			}
			if _, err := path.Join(true, l...); err == api.OK != (may && whole+min(1, len(l)) <= 512) {
				t.Errorf("%d bytes of %d segments, and a / behind them: %d", whole, len(l), err)
			}
			checkJoin(t, false, l...)
			checkJoin(t, true, l...)
		}
	}
}

// Rows that have more bytes than there is memory, put together, are refused all the same; so are those of very many segments.
func TestP8_3JoinHuge(t *testing.T) {
	long := strings.Repeat("a", 1<<27)
	for _, l := range [][]string{slices.Repeat([]string{long}, 1<<22), slices.Repeat([]string{""}, 1<<20), slices.Repeat([]string{"a"}, 1<<20), append(slices.Repeat([]string{"."}, 1<<20), long)} {
		for _, dir := range []bool{false, true} {
			if s, err := path.Join(dir, l...); s != "" || err != api.ErrForm {
				t.Errorf("%d segments: %.100q, %d", len(l), s, err)
			}
		}
	}
}

func TestP8_3JoinSmall(t *testing.T) {
	fine := 0
	for _, l := range probe.Rows(3, "", ".", "..", "...", "a", "b", "ab", "/", "a/b", "/a", "a/", "?", "a?", "%2E", "%41", "%3b", "%3B", "%2F", "%25", ".a") {
		if checkJoin(t, false, l...) {
			fine++
		}
		checkJoin(t, true, l...)
	}
	if fine != 1+7+7*7+7*7*7 {
		t.Errorf("%d rows are fine", fine)
	}
}

func TestP8_3ThereAndBack(t *testing.T) {
	r := rand.New(rand.NewSource(4))
	back := 0
	for range 20000 {
		p, _, err := path.Normal(someTarget(r))
		if err != api.OK {
			continue
		}
		back++
		l, err := path.Segments(p)
		dir := strings.HasSuffix(p, "/")
		if s, err2 := path.Join(dir, l...); s != p || err != api.OK || err2 != api.OK {
			t.Errorf("%q: %q, %d, put together %q, %d", p, l, err, s, err2)
		}
		s, err := path.Join(!dir, l...)
		if again, err2 := path.Segments(s); !slices.Equal(again, l) || err != api.OK || err2 != api.OK {
			t.Errorf("%q: %q, %d, and back %q, %d", l, s, err, again, err2)
		}
	}
	if back < 10000 {
		t.Errorf("%d paths: too few", back)
	}
}

// lent answers s in memory that can be scrubbed.
func lent(s string) (string, []byte) {
	b := []byte(s)
	return unsafe.String(unsafe.SliceData(b), len(b)), b
}

// told answers in new memory whatever the package's calls tell of s.
func told(s string) string {
	p, q, e := path.Normal(s)
	l, e2 := path.Segments(s)
	j, e3 := path.Join(true, s)
	return fmt.Sprintf("%q %q %d %v %q %d %q %d", p, q, e, path.Canon(s), l, e2, j, e3)
}

// What is answered stays as it is, whatever becomes of what was handed in; and that is not changed.
func TestP8_4TextsAreNew(t *testing.T) {
	for _, s := range append(goodTargets(), "", "a", "/..", "..", "b%3B", "%41") {
		given, memory := lent(s)
		first := told(given)
		p, q, _ := path.Normal(given)
		l, _ := path.Segments(given)
		j, _ := path.Join(false, given)
		dir, _ := path.Join(true, given)
		before := fmt.Sprintf("%q %q %q %q %q", p, q, l, j, dir)
		if given != s || told(given) != first {
			t.Errorf("%q is %q, or told of otherwise when asked again", s, given)
		}
		probe.Scrub(memory)
		if now := fmt.Sprintf("%q %q %q %q %q", p, q, l, j, dir); now != before {
			t.Errorf("%q: %s is %s behind a change of what was given", s, before, now)
		}
		if told(s) != first {
			t.Errorf("%q: another answer behind a change of what was given", s)
		}
	}
}

func TestP8_4RowsStay(t *testing.T) {
	for _, row := range [][]string{nil, {"a"}, {"a", "b"}, {"a", "", "b"}, {".", "..", "a"}, {"a", ".."}, {"%41", "/"}, slices.Repeat([]string{"a"}, 256), slices.Repeat([]string{"a"}, 300)} {
		for _, dir := range []bool{false, true} {
			l, stays := probe.GuardedRow(row, "behind")
			first, err := path.Join(dir, l...)
			if again, err2 := path.Join(dir, l...); again != first || err2 != err || !stays() {
				t.Errorf("%q: %q, then %q, or the row is changed", row, first, again)
			}
		}
	}
}

// A row that was answered is nobody else's: what becomes of it, or is put behind it, is seen in no other one.
func TestP8_4SegmentsAreNew(t *testing.T) {
	for _, s := range []string{"/a", "/a/b", "/a/b/c/", strings.Repeat("/a", 256)} {
		first, _ := path.Segments(s)
		second, _ := path.Segments(s)
		want := slices.Clone(second)
		for _, x := range first[:cap(first)] {
			if x != "" && !slices.Contains(want, x) {
				t.Errorf("%q: %q stands behind its segments", s, x)
			}
		}
		_ = append(first, "x")
		for i := range first {
			first[i] = "y"
		}
		third, _ := path.Segments(s)
		if !slices.Equal(second, want) || !slices.Equal(third, want) {
			t.Errorf("%q: %q and %q behind a change of another answer", s, second, third)
		}
	}
}
