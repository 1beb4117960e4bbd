package path_test

import (
	"fmt"
	"math/rand"
	"net/url"
	library "path"
	"regexp"
	"slices"
	"strings"

	"gatepost/probe"
)

// most is how many bytes a target has at most, by the document.
const most = 512

// stand is the words of what stands in a target itself, but for / and ?, for the library's expressions.
const stand = `!$&-.0-;=@-\[\]_a-z~`

var (
	targetForm = regexp.MustCompile(`\A/(?:[/?` + stand + `]|%[0-9A-Fa-f]{2})*\z`)
	saidForm   = regexp.MustCompile(`%[0-9A-Fa-f]{2}`)
	badForm    = regexp.MustCompile(`(?i)%(?:[01][0-9a-f]|7f|2f|5c)`)
	plainForm  = regexp.MustCompile(`\A[A-Za-z0-9._~-]\z`)
	segForm    = segmentForm()
)

// segmentForm is what stands between the slashes of a normal path: bytes that stand themselves, and those said by a % that have no other form.
func segmentForm() *regexp.Regexp {
	var said []string
	for x := range 256 {
		if !plainForm.MatchString(string([]byte{byte(x)})) && !badForm.MatchString(fmt.Sprintf("%%%02X", x)) {
			said = append(said, fmt.Sprintf("%02X", x))
		}
	}
	return regexp.MustCompile(`\A(?:[` + stand + `]|%(?:` + strings.Join(said, "|") + `))+\z`)
}

// spelt answers the text with each byte said by a % in its one form, by the library.
func spelt(text string) string {
	return saidForm.ReplaceAllStringFunc(text, func(s string) string {
		b, err := url.PathUnescape(s)
		if err == nil && plainForm.MatchString(b) {
			return b
		}
		return strings.ToUpper(s)
	})
}

// isDots tells whether a segment is one that is left out.
func isDots(s string) bool { return slices.Contains([]string{"", ".", ".."}, s) }

// normal answers by the words what the target's path and query are, and whether it has any.
func normal(target string) (path, query string, ok bool) {
	road, query, _ := strings.Cut(target, "?")
	if len(target) > most || !targetForm.MatchString(target) || badForm.MatchString(road) {
		return "", "", false
	}
	// No road has a nought in it: if it is led out of what is called so, that never comes back.
	top := "/\x00"
	road = spelt(road)
	path, ok = strings.CutPrefix(library.Clean(top+road), top)
	switch pieces := strings.Split(road, "/"); {
	case !ok:
		return "", "", false
	case path == "" || isDots(pieces[len(pieces)-1]):
		path += "/"
	}
	return path, spelt(query), true
}

// isCanon tells by the words of what a normal path is made of whether it is one.
func isCanon(path string) bool {
	rest, ok := strings.CutPrefix(path, "/")
	rest = strings.TrimSuffix(rest, "/")
	if !ok || len(path) > most {
		return false
	}
	return path == "/" || !slices.ContainsFunc(strings.Split(rest, "/"), func(s string) bool { return isDots(s) || !segForm.MatchString(s) })
}

// some512 is a road of the most bytes.
var some512 = "/" + strings.Repeat("xyz%3B/.", 63) + "tuvwxyz"

// goodTargets are targets that have a normal path.
func goodTargets() []string {
	l := []string{
		"/", "//", "///", "/.", "/./", "/./.", "/a", "/a/", "/a//", "/a/.", "/a/./", "/a/..", "/a/../", "/a/b", "//a", "//a//b//", "/a/b/../..", "/a/../b/..", "/a/b/../c/../d", "/a/b/c/../../d/",
		"/...", "/..a", "/a..", "/.a", "/a.", "/.../..", "/a/...", "/....", "/..;/a", "/a;b/..;c", "/a=b", "/a,b", "/a:b@c", "/a!b$c&d'e(f)g*h+i", "/[a]", "/-._~", "/~a/-b/_c", "/A/a", "/a@b:80",
		"/%41", "/%61%7A%5a", "/%30%39", "/%2d%2e%5f%7e", "/%2E", "/a/%2e%2e/b", "/a/.%2e", "/a/%2E.", "/a/%2e", "/%20", "/%25", "/%252e%252e", "/%25%32%65", "/%3f", "/%3F%23", "/%80%ff%FF%c3%A9", "/%5b%5D", "/%21", "/%2a%2C",
		"/?", "/??", "/a?", "/a?b", "/a?b?c", "/a?%2f%00%5C%7f", "/a?x=%7e", "/a?/../..", "/a?//./", "/a?b/%2e%2e/c", "/..a?..", "/a?%3f", "/?%25", "/a/?", "/a/..?b", "/?a=b&c=d;e", "/a?[b]",
		"/a/b/c/d/e/f/../../../../../../g", "/a//..//b", "/a/./../b", "/a/.//..", "/..../..", "/a/b//../", "/a/b/./..", "/index.html", "/api/v1/things/7?all=1",
		some512, some512[:511], strings.Repeat("/", 512), strings.Repeat("/.", 256), strings.Repeat("/a/..", 102), "/" + strings.Repeat("a", 511), strings.Repeat("/a", 256), strings.Repeat("/a", 128) + strings.Repeat("/..", 85), "/" + strings.Repeat("%41", 170), "/?" + strings.Repeat("%41", 170), "/?" + strings.Repeat("a", 510), "/a?" + some512[:509],
	}
	for x := range 256 {
		l = append(l, fmt.Sprintf("/a?%%%02x%%%02X", x, x))
		if s := fmt.Sprintf("/a%%%02x/%%%02X", x, x); !badForm.MatchString(s) {
			l = append(l, s)
		}
	}
	for _, c := range "!$&'()*+,-./0123456789:;=?@ABCXYZ[]_abcxyz~" {
		l = append(l, "/"+string(c), "/a"+string(c)+"b", "/a?"+string(c))
	}
	return l
}

// badTargets are targets that may not be, or that have no normal path.
func badTargets() []string {
	l := []string{
		"", "a", "a/b", "?", "?/a", "%2f", "%2Fa", ".", "..", "*", "./a", "../a", "http://a/b", "\\a", " /a", "\n/a", "\x00/a", "\ufeff/a", "\uff0fa",
		"/..", "/../", "/../a", "//..", "/./..", "/a/../..", "/a/../../a", "/a/b/../../..", "/..//a", "/%2e%2e", "/.%2e", "/%2E./a", "/a/../%2e%2E/a", "/a//../..", "/a/./../..", "/..?a", "/a/../..?b", "/a/../../b/c",
		"/a%2fb", "/a%2Fb", "/%2f", "/%2F..", "/a%5cb", "/a%5Cb", "/%5C", "/%00", "/a%00", "/a%0a", "/%0D%0A", "/a%1f", "/a%1F", "/a%7f", "/a%7F", "/a/%00/..", "/%09", "/a%2f..%2fb", "/%2f?a", "/%00?",
		"/%", "/a%", "/%2", "/a%2", "/%a", "/%%", "/%%32", "/%2%65", "/%zz", "/%2g", "/%g2", "/%G2", "/%2G", "/% 2", "/%2 ", "/%+2", "/%-1", "/%0x", "/%x2", "/%_2", "/%2_", "/%2?5", "/%?25", "/a%2/b", "/a%/b", "/%u0041", "/%\u0661\u0662", "/%\xff1", "/a?%", "/a?%2", "/a?b%zz", "/a?%%", "/a?%2g", "/?%0x", "/a?%2&",
		"/a b", "/a ", "/ ", "/a\t", "/a\n", "/a\r\n", "/\n", "/a\x00", "/\x00", "/a\x1f", "/a\x7f", "/a\x80", "/\xff", "/caf\u00e9", "/\u0130", "/\uff0e\uff0e", "/\u2024", "/a\u200b", "/\xc0\xae", "/a?\x00", "/a?b c", "/a?\u00e9", "/a?\xff", "/a?b\n",
		"/a\"b", "/#", "/a#b", "/a?b#c", "/a<b", "/a>b", "/a\\b", "/..\\a", "/a/..\\b", "/a^b", "/a`b", "/{a}", "/a|b", "/}", "/a?\"", "/a?<", "/a?>", "/a?\\", "/a?^", "/a?`", "/a?{", "/a?|", "/a?}", "/?#",
		some512 + "a", some512 + "/", strings.Repeat("/", 513), "/" + strings.Repeat("a", 512), "/?" + strings.Repeat("a", 511), "/a?" + some512, "/" + strings.Repeat("%41", 171), strings.Repeat("/a/..", 103), strings.Repeat("/a/..", 102) + "/..", strings.Repeat("/a", 127) + strings.Repeat("/..", 128),
		strings.Repeat("/a", 1<<19), strings.Repeat("/..", 1<<19), strings.Repeat("/", 1<<20), "/?" + strings.Repeat("a", 1<<20), strings.Repeat("/%2e%2e", 1<<17), strings.Repeat("%", 1<<20), "/a?" + strings.Repeat("%", 300),
	}
	for i := 1; i < 511; i += 7 {
		for _, x := range []string{" ", "#", "%", "\x00", "\xff", "%2f", "%zz"} {
			l = append(l, (some512[:i] + x + some512[i:])[:most])
		}
	}
	return l
}

// parts are what small targets are made of.
func parts() []string {
	return []string{"/", ".", "a", "%2e", "%2E", "%41", "%2f", "%25", "?"}
}

// someTarget answers a target; r says which. Most of them have a normal path.
func someTarget(r *rand.Rand) string {
	words := []string{"a", "b", "ab", ".", "..", "", "...", "%2e", "%2E.", "..", "a.b", "%61", "%c3%a9", "%3b", "~", "a;b", "%252e"}
	if r.Intn(8) == 0 {
		words = append(words, "%2f", "%00", "a b", "%", "#", "%5C")
	}
	var b strings.Builder
	for range 1 + r.Intn(8) {
		b.WriteString("/" + words[r.Intn(len(words))])
	}
	if r.Intn(3) == 0 {
		b.WriteString("?" + words[r.Intn(len(words))] + "/" + words[r.Intn(len(words))])
	}
	return b.String()
}

// edited answers s with some bytes put in, taken out or changed; r says which.
func edited(r *rand.Rand, s string) string {
	return probe.Edited(s, "aZ0..//%%?2eEfF5cC;~ #\\\x00\x7f\xff", r.Intn)
}
