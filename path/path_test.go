package path_test

import (
	"fmt"
	"math/rand"
	"strings"
	"testing"

	"gatepost/api"
	"gatepost/path"
	"gatepost/probe"
)

// checkNormal tells if the target is taken otherwise than by the words, and answers whether it has a normal path.
func checkNormal(t *testing.T, target string) bool {
	t.Helper()
	want, wantQuery, ok := normal(target)
	wantErr := api.ErrForm
	if ok {
		wantErr = api.OK
	}
	if p, q, err := path.Normal(target); p != want || q != wantQuery || err != wantErr {
		t.Errorf("Normal(%.100q): %q, %q, %d; want %q, %q, %d", target, p, q, err, want, wantQuery, wantErr)
	}
	return ok
}

// checkIs tells if the target's path or query is another one than that.
func checkIs(t *testing.T, target, want, wantQuery string) {
	t.Helper()
	if p, q, err := path.Normal(target); p != want || q != wantQuery || err != api.OK || !checkNormal(t, target) {
		t.Errorf("Normal(%q): %q, %q, %d; want %q, %q", target, p, q, err, want, wantQuery)
	}
}

// checkForm tells if the target is answered by anything but ErrForm.
func checkForm(t *testing.T, target string) {
	t.Helper()
	if p, q, err := path.Normal(target); p != "" || q != "" || err != api.ErrForm || checkNormal(t, target) {
		t.Errorf("Normal(%.100q): %q, %q, %d", target, p, q, err)
	}
}

func TestP8_1Examples(t *testing.T) {
	checkIs(t, "/a//b/./c/../d?x=%7e", "/a/b/d", "x=~")
	checkIs(t, "/a/%2e%2E/b/", "/b/", "")
	checkIs(t, "/a/..", "/", "")
	checkIs(t, "/%7Ea%3b", "/~a%3B", "")
	for _, s := range []string{"/..", "/a%2fb", "/a%00", "/a\\b", "a"} {
		checkForm(t, s)
	}
}

func TestP8_1Segments(t *testing.T) {
	for target, want := range map[string]string{
		"/": "/", "//": "/", "///": "/", "/.": "/", "/./": "/", "/./.": "/", "/a": "/a", "/a/": "/a/", "//a": "/a", "/a//": "/a/", "//a//b//": "/a/b/",
		"/a/.": "/a/", "/a/./": "/a/", "/./a": "/a", "/a/./b": "/a/b", "/a/./.": "/a/", "/a//.": "/a/", "/a/.//": "/a/",
		"/a/..": "/", "/a/../": "/", "/a/../b": "/b", "/a/../b/": "/b/", "/a/b/..": "/a/", "/a/b/../": "/a/", "/a/b/../..": "/", "/a/b/../../c": "/c", "/a/../b/..": "/", "/a/b/../c": "/a/c", "/a/b/../c/../d": "/a/d",
		"/a//..": "/", "/a//../b": "/b", "/a/./../b": "/b", "/a/b//..": "/a/", "/a/b/./..": "/a/", "/a/b/.././..": "/", "/a/b/..//..//c": "/c",
		"/...": "/...", "/..a": "/..a", "/a..": "/a..", "/.a": "/.a", "/a.": "/a.", "/a/...": "/a/...", "/a/.../..": "/a/", "/a/..b": "/a/..b", "/a/.b/": "/a/.b/", "/..;/a": "/..;/a", "/a/..;": "/a/..;", "/a/.;/..": "/a/",
		"/%2e": "/", "/%2E": "/", "/%2ea": "/.a", "/a/%2e": "/a/", "/a/%2E/b": "/a/b", "/a/%2e%2e": "/", "/a/.%2E/b": "/b", "/a/%2e./b": "/b", "/%2e%2e%2e": "/...",
		"/%252e": "/%252e", "/a/%252e%252e": "/a/%252e%252e", "/%25%32%65": "/%252e", "/%252E": "/%252E", "/%252f": "/%252f", "/%2500": "/%2500", "/%2525": "/%2525",
	} {
		checkIs(t, target, want, "")
		checkIs(t, target+"?", want, "")
		checkIs(t, target+"?a/../b//%2e%61%2f", want, "a/../b//.a%2F")
	}
}

func TestP8_1Wrong(t *testing.T) {
	for _, s := range badTargets() {
		checkForm(t, s)
	}
}

func TestP8_1Good(t *testing.T) {
	for _, s := range goodTargets() {
		if !checkNormal(t, s) {
			t.Errorf("%q has no normal path by the words", s)
		}
	}
}

// Each byte, at a road's beginning, between, at its end, and in a query.
func TestP8_1EachByte(t *testing.T) {
	stand := 0
	for x := range 256 {
		c := string([]byte{byte(x)})
		may := x >= 33 && x <= 126 && !strings.Contains("\"#<>\\^`{|}%", c)
		for _, around := range [][2]string{{"/", "a"}, {"/a", "b"}, {"/a", ""}, {"/a?", "b"}, {"/a?b", "c"}, {"/a?b", ""}} {
			s := around[0] + c + around[1]
			if checkNormal(t, s) != may {
				t.Errorf("%q: may be %v", s, !may)
			}
			if _, _, err := path.Normal(s); err == api.OK != may {
				t.Errorf("%q: %d", s, err)
			}
		}
		if may {
			stand++
		}
	}
	if stand != 94-11 {
		t.Errorf("%d bytes stand in targets", stand)
	}
}

// Each byte said by a %, in each of its spellings, in roads and in queries.
func TestP8_1EachSaid(t *testing.T) {
	themselves, said, bad := 0, 0, 0
	for x := range 256 {
		c := string([]byte{byte(x)})
		one := fmt.Sprintf("%%%02X", x)
		isPlain := x < 128 && strings.Contains("abcdefghijklmnopqrstuvwxyzABCDEFGHIJKLMNOPQRSTUVWXYZ0123456789-._~", c)
		if isPlain {
			one = c
		}
		isBad := x < 32 || x == 127 || c == "/" || c == "\\"
		for _, s := range []string{fmt.Sprintf("%%%02X", x), fmt.Sprintf("%%%02x", x), fmt.Sprintf("%%%X%x", x>>4, x&15), fmt.Sprintf("%%%x%X", x>>4, x&15)} {
			checkIs(t, "/a?"+s, "/a", one)
			checkIs(t, "/?b"+s+s+"c", "/", "b"+one+one+"c")
			for _, target := range []string{"/a" + s, "/a" + s + "b", "/" + s + "a", "/a/b" + s + "/c", "/a" + s + "?b"} {
				if isBad {
					checkForm(t, target)
					continue
				}
				want, query, _ := strings.Cut(strings.ReplaceAll(target, s, one), "?")
				checkIs(t, target, want, query)
			}
		}
		switch {
		case isPlain:
			themselves++
		case isBad:
			bad++
		default:
			said++
		}
	}
	if themselves != 66 || bad != 35 || said != 155 {
		t.Errorf("%d bytes stand themselves, %d may not be, %d are said", themselves, bad, said)
	}
}

// Each two bytes behind a %: just if they are two digits of sixteen they may be.
func TestP8_1Digits(t *testing.T) {
	fine := 0
	for x := range 1 << 16 {
		two := string([]byte{byte(x >> 8), byte(x)})
		_, query, err := path.Normal("/?a%" + two + "b")
		if want, wantQuery, ok := normal("/?a%" + two + "b"); ok != (err == api.OK) || ok && want != "/" || query != wantQuery {
			t.Errorf("%q: %q, %d", two, query, err)
		}
		if err == api.OK {
			fine++
		}
		if _, _, err := path.Normal("/a%" + two); err == api.OK != (targetForm.MatchString("/a%"+two) && !badForm.MatchString("/a%"+two)) {
			t.Errorf("%q in a road: %d", two, err)
		}
	}
	if fine != 22*22 {
		t.Errorf("%d pairs of digits", fine)
	}
}

func TestP8_1Lengths(t *testing.T) {
	for n := range 600 {
		for _, s := range []string{"/" + strings.Repeat("a", n), strings.Repeat("/", n), strings.Repeat("/a", n), strings.Repeat("/%61", n), strings.Repeat("/a/..", n), "/?" + strings.Repeat("a", n), "/" + strings.Repeat("a", n) + "?" + strings.Repeat("b", n), "/" + strings.Repeat("%2e", n), "/?" + strings.Repeat("%7e", n)} {
			checkNormal(t, s)
			_, _, err := path.Normal(s)
			if may := len(s) >= 1 && len(s) <= 512 && s != "/%2e%2e"; may != (err == api.OK) {
				t.Errorf("%d bytes, %.20q: %d", len(s), s, err)
			}
		}
	}
}

// What is taken back, and how often, in all orders.
func TestP8_1UpAndDown(t *testing.T) {
	fine := 0
	for _, l := range probe.Rows(8, "/a", "/..", "//.") {
		s := strings.Join(l, "")
		depth, out := 0, len(l) == 0
		for _, x := range l {
			switch x {
			case "/a":
				depth++
			case "/..":
				depth--
			}
			out = out || depth < 0
		}
		if out {
			checkForm(t, s)
			continue
		}
		fine++
		want := strings.Repeat("/a", depth)
		if depth == 0 || l[len(l)-1] != "/a" {
			want += "/"
		}
		checkIs(t, s, want, "")
	}
	if fine < 1000 {
		t.Errorf("%d roads are fine: too few", fine)
	}
}

func TestP8_1Small(t *testing.T) {
	fine := 0
	for _, s := range probe.Texts(5, parts()...) {
		if checkNormal(t, "/"+s) {
			fine++
		}
		checkNormal(t, s)
	}
	if fine < 10000 {
		t.Errorf("%d targets are fine: too few", fine)
	}
}

func TestP8_1Near(t *testing.T) {
	for _, s := range []string{"/", "/a", "/a/../b", "/%2e%2E/", "/a/%2e%2e/b?c=%2f", "/a%3b?%41", "/a//b/./c/../d?x=%7e", some512[448:], some512[504:] + "?" + some512[:8]} {
		for near := range probe.Near(s) {
			checkNormal(t, near)
		}
	}
	for _, s := range []string{some512, some512[:511], some512[:510]} {
		for _, x := range []string{"", "a", "/", "?", "%", " ", "%4", "%41", "\x00"} {
			for i := range len(s) + 1 {
				checkNormal(t, s[:i]+x+s[i:])
			}
		}
	}
}

func TestP8_1Many(t *testing.T) {
	r := rand.New(rand.NewSource(1))
	fine := 0
	for range 50000 {
		s := someTarget(r)
		checkNormal(t, s)
		if checkNormal(t, edited(r, s)) {
			fine++
		}
	}
	if fine < 10000 || fine > 40000 {
		t.Errorf("%d of 50000 targets are fine: not both often", fine)
	}
	for n := range 2000 {
		checkNormal(t, "/"+string(probe.Bytes(int64(n), n%40)))
		checkNormal(t, string(probe.Bytes(int64(n), n%600)))
	}
}

// checkCanon tells if the text is taken otherwise than by the words, and answers whether it is canonical.
func checkCanon(t *testing.T, s string) bool {
	t.Helper()
	want := isCanon(s)
	if p, _, ok := normal(s); want != (ok && p == s && !strings.Contains(s, "?")) {
		t.Fatalf("the words of %.100q tell of it in two ways", s)
	}
	if path.Canon(s) != want {
		t.Errorf("Canon(%.100q): %v", s, !want)
	}
	return want
}

func TestP8_2Canon(t *testing.T) {
	for _, s := range []string{"/", "/a", "/a/", "/a/b", "/a/b/", "/...", "/..a", "/.a", "/a.", "/~a%3B", "/%20", "/%25", "/%252e", "/%C3%A9", "/%FF", "/a;b=c,d", "/[]", "/!$&'()*+,:@", "/A/a", "/%3F", "/%23", "/%21", "/!", "/" + strings.Repeat("a", 511), strings.Repeat("/a", 256), strings.Repeat("/a", 255) + "/", "/" + strings.Repeat("%20", 170) + "/"} {
		if !path.Canon(s) || !checkCanon(t, s) {
			t.Errorf("%q is not canonical", s)
		}
	}
}

func TestP8_2Not(t *testing.T) {
	for _, s := range []string{
		"", "a", "a/", "?", "//", "/a//", "//a", "/a//b", "/.", "/./", "/./a", "/a/.", "/a/./b", "/..", "/../a", "/a/..", "/a/../", "/a/../b", "/%2e", "/%2E%2e", "/%41", "/%7e", "/%7E", "/%2D", "/%5F", "/%30", "/%3b", "/%c3%a9", "/%C3%a9", "/%3f",
		"/?", "/a?", "/a?b", "/?a", "/a/?", "/a?/", "/a/b?c=d", "/a#", "/a b", "/a%2Fb", "/a%5Cb", "/a%00", "/a%7F", "/a%1F", "/a%", "/a%2", "/a%zz", "/a\\b", "/a\x00", "/\u00e9", "/\xff", "/" + strings.Repeat("a", 512), strings.Repeat("/a", 256) + "/", strings.Repeat("/a", 1<<19),
	} {
		if path.Canon(s) || checkCanon(t, s) {
			t.Errorf("%.100q is canonical", s)
		}
	}
	for _, s := range badTargets() {
		if path.Canon(s) || checkCanon(t, s) {
			t.Errorf("%.100q is canonical", s)
		}
	}
}

func TestP8_2Many(t *testing.T) {
	r := rand.New(rand.NewSource(2))
	texts := append(probe.Texts(5, parts()...), goodTargets()...)
	for range 20000 {
		p, _, _ := normal(someTarget(r))
		texts = append(texts, edited(r, p))
	}
	for _, s := range []string{"/", "/a/b", "/a%3B/", "/%2541/~"} {
		for near := range probe.Near(s) {
			texts = append(texts, near)
		}
	}
	canon := 0
	for _, s := range texts {
		if checkCanon(t, s) {
			canon++
		}
		checkCanon(t, "/"+s)
	}
	if canon < 5000 || canon > len(texts)-5000 {
		t.Errorf("%d of %d are canonical: not both often", canon, len(texts))
	}
}

// Whatever stands on the other side of the first ?, the path is the same, and so is the query.
func TestP8_7RoadAndQuery(t *testing.T) {
	roads := []string{"/", "/a", "/a/", "/a/../b", "/a//b/.", "/%2e%2E%3b", "/%41/%3f", "/a%20", "/a/%252e/.."}
	queries := []string{"", "a", "?", "??", "/", "/..", "../../..", "//", ".", "%2e%2e", "%41", "%3f", "%3F?", "%2f%5C%00%7f", "a=b&c=d", "%25%32%65", "a?b?c", "/a?/b", "[]"}
	for _, road := range roads {
		alone, none, err := path.Normal(road)
		if none != "" || err != api.OK {
			t.Errorf("%q: a query %q, %d", road, none, err)
		}
		for _, query := range queries {
			_, want, err := path.Normal("/?" + query)
			p, q, err2 := path.Normal(road + "?" + query)
			if p != alone || q != want || err != api.OK || err2 != api.OK {
				t.Errorf("%q and %q: %q, %q, %d, %d; alone %q, %q", road, query, p, q, err, err2, alone, want)
			}
			checkNormal(t, road+"?"+query)
		}
	}
	for _, road := range []string{"/..", "/a/../..", "/%2f", "/a%00", "/a%5C/b", "/%7F"} {
		for _, query := range queries {
			checkForm(t, road+"?"+query)
		}
	}
	if _, _, err := path.Normal("/%2?5"); err != api.ErrForm {
		t.Errorf("a %% whose digits stand on two sides: %d", err)
	}
}
