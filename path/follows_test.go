package path_test

import (
	"fmt"
	"math/rand"
	"slices"
	"strings"
	"testing"

	"gatepost/api"
	"gatepost/path"
	"gatepost/probe"
)

// checkOnce tells if the target's path is not as a normal one is, and answers whether it has one.
func checkOnce(t *testing.T, target string) bool {
	t.Helper()
	p, _, err := path.Normal(target)
	if err != api.OK {
		return false
	}
	road, _, _ := strings.Cut(target, "?")
	again, query, err := path.Normal(p)
	pieces := strings.Split(p, "/")
	switch {
	case !path.Canon(p) || again != p || query != "" || err != api.OK:
		t.Errorf("%q: the path %q, and of that %q, %q, %d", target, p, again, query, err)
	case strings.Contains(p, "//") || slices.Contains(pieces, ".") || slices.Contains(pieces, ".."):
		t.Errorf("%q: the path %q", target, p)
	case len(p) > len(road) || len(p) == 0:
		t.Errorf("%q: the path %q has %d bytes", target, p, len(p))
	}
	return true
}

func TestP8_5Once(t *testing.T) {
	for _, s := range goodTargets() {
		if !checkOnce(t, s) {
			t.Errorf("%q has no path", s)
		}
	}
	for _, s := range badTargets() {
		if checkOnce(t, s) {
			t.Errorf("%.100q has a path", s)
		}
	}
}

func TestP8_5OnceMany(t *testing.T) {
	r := rand.New(rand.NewSource(5))
	texts := probe.Texts(5, parts()...)
	for range 50000 {
		texts = append(texts, edited(r, someTarget(r)))
	}
	fine := 0
	for _, s := range texts {
		if checkOnce(t, "/"+s) {
			fine++
		}
	}
	if fine < 30000 {
		t.Errorf("%d targets have a path: too few", fine)
	}
}

// alikeAt answers roads that are to have the same path as the road, and are another one at its byte i.
func alikeAt(road string, i int) []string {
	var l []string
	before, behind := road[:i], road[i+1:]
	switch c := road[i]; {
	case c == '/':
		for _, s := range []string{"/./", "//", "///", "/././", "/.//", "/%2e/"} {
			l = append(l, before+s+behind)
		}
		for _, s := range []string{"a", "b.c", "...", "..a", "~", "%3B", "%41", "%252e", "a;b", "%c3%a9", "-"} {
			for _, back := range []string{"/..", "/%2e%2E", "//..", "/x/../.."} {
				l = append(l, before+"/"+s+back+road[i:])
			}
		}
	case strings.HasSuffix(before, "%") || strings.Contains(before, "%") && before[len(before)-2] == '%':
		// A digit of a byte that is said already.
	case 'a' <= c && c <= 'z' || 'A' <= c && c <= 'Z':
		l = append(l, before+fmt.Sprintf("%%%02x", c)+behind, before+fmt.Sprintf("%%%02X", c)+behind)
	}
	return l
}

// alike answers roads that are to have the same path as the road.
func alike(road string) []string {
	var l []string
	for i := range len(road) {
		l = append(l, alikeAt(road, i)...)
	}
	return l
}

// roads are some whose likes are looked at.
func roads() []string {
	return []string{"/", "/a", "/a/", "/a/b", "/a/b/", "/A/z/M", "/ab/cd/", "/a%3B/%2541", "/a/..", "/a/../b", "/a//b", "/.", "/a/.", "/...", "/~a/-", "/%7ea", "/index.html", "/a/%2e%2E/b/", "/a;b/C", "/%C3%A9"}
}

func TestP8_6Alike(t *testing.T) {
	for _, road := range roads() {
		want, _, err := path.Normal(road)
		if err != api.OK {
			t.Errorf("%q: %d", road, err)
		}
		for _, s := range alike(road) {
			if p, _, err := path.Normal(s); p != want || err != api.OK {
				t.Errorf("%q: %q, %d; that of %q is %q", s, p, err, road, want)
			}
		}
	}
}

// Likes of likes, as many as a target has room for.
func TestP8_6AlikeMany(t *testing.T) {
	r := rand.New(rand.NewSource(6))
	long := 0
	for range 300 {
		road := roads()[r.Intn(len(roads()))]
		want, _, _ := path.Normal(road)
		s := road
		for range 500 {
			if l := alikeAt(s, r.Intn(len(s))); l != nil {
				s = l[r.Intn(len(l))]
			}
			if len(s) > api.MaxLine {
				long++
				break
			}
			if p, _, err := path.Normal(s); p != want || err != api.OK {
				t.Fatalf("%q: %q, %d; that of %q is %q", s, p, err, road, want)
			}
		}
	}
	if long < 200 {
		t.Errorf("%d roads grew as long as a target: too few", long)
	}
}

// A road that leads out above its first segment does so in each of its likes.
func TestP8_6AlikeOut(t *testing.T) {
	for _, road := range []string{"/..", "/../a", "/a/../..", "/a/../../b", "/%2f", "/a%00b", "/a%5c"} {
		for _, s := range alike(road) {
			if p, _, err := path.Normal(s); p != "" || err != api.ErrForm {
				t.Errorf("%q: %q, %d", s, p, err)
			}
		}
	}
}
