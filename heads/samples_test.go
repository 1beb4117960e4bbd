package heads_test

import (
	"fmt"
	"math/rand"
	"regexp"
	"strings"
	"unsafe"

	"gatepost/api"
	"gatepost/probe"
)

// tokens are the bytes of names beside letters and digits, by the document.
const tokens = "!#$%&'*+-.^_`|~"

// The words of names, of values and of lines, for the library's expressions; \z, as $ would let a line's end follow.
var (
	nameForm  = regexp.MustCompile("\\A[a-z0-9!#$%&'*+\\-.^_`|~]{1,64}\\z")
	valueForm = regexp.MustCompile(`\A(?:[\x21-\x7e](?:[\t\x20-\x7e]*[\x21-\x7e])?)?\z`)
	lineForm  = regexp.MustCompile("\\A([A-Za-z0-9!#$%&'*+\\-.^_`|~]+):[\\t ]*((?:[^\\t ](?:.*[^\\t ])?)?)[\\t ]*\\z")
)

// isName tells by the words whether a name may be.
func isName(s string) bool { return nameForm.MatchString(s) }

// isValue tells by the words whether a value may be.
func isValue(s string) bool { return len(s) <= 512 && valueForm.MatchString(s) }

// isHead tells by the words whether a header may be.
func isHead(h api.Head) bool { return isName(h.Name) && isValue(h.Value) }

// read answers by the words the header of the line.
func read(line string) (api.Head, api.Errno) {
	if len(line) > 578 {
		return api.Head{}, api.ErrLong
	}
	parts := lineForm.FindStringSubmatch(line)
	if parts == nil {
		return api.Head{}, api.ErrForm
	}
	h := api.Head{Name: strings.ToLower(parts[1]), Value: parts[2]} // by the expression it has no letters but A to Z and a to z
	if !isHead(h) {
		return api.Head{}, api.ErrForm
	}
	return h, api.OK
}

const (
	letters64 = "abcdefghijklmnopqrstuvwxyz0123456789!#$%&'*+-.^_`|~zyxwvutsrqpon"
	letters32 = "!\"#$%&'()*+,-./0123456789:;<=>?@"
)

// value512 is a value of the most bytes, with blanks and tabs within.
var value512 = strings.Repeat("ab c\td~:", 63) + letters32[:8]

// goodNames are names that may be.
func goodNames() []string {
	l := []string{"host", "content-length", "transfer-encoding", "x", "x-a", "x--a", "-", "--", "0", "a.b", "~", "!#$%&'*+-.^_`|~", "a1", "1a", "sec-ch-ua", "www_authenticate", letters64, letters64[:63], letters64[1:], strings.Repeat("a", 63), strings.Repeat("a", 64), strings.Repeat("-", 64)}
	for _, c := range "abcdefghijklmnopqrstuvwxyz0123456789" + tokens {
		l = append(l, string(c), "a"+string(c), string(c)+"a", letters64[:63]+string(c))
	}
	return l
}

// badNames are names that may not be.
func badNames() []string {
	l := []string{
		"", " ", "a b", " a", "a ", "\t", "a\t", "\ta", "\n", "a\n", "a\r\n", "\r", "\x00", "a\x00", "\x00a", "\x1f", "\x7f", "a\x7f", "host:", ":", ":host", "a:b", "a: b",
		"\"", "(", ")", ",", "/", ";", "<", "=", ">", "?", "@", "[", "\\", "]", "{", "}", "\"a\"", "a/b", "a,b", "a=b", "a;b", "(a)", "<a>", "[a]", "{a}", "a@b", "a\\b",
		"A", "Z", "Host", "hOST", "hosT", "HOST", "Content-Length", "x-A", "X-a",
		"\u00e9", "caf\u00e9", "\u212a", "\u212aa", "\u017f", "ho\u017ft", "\u0130", "\u0131", "\uff41", "\u0430", "\u2010", "a\u00adb", "\ufeffa", "\u200ba", "a\u0301", "\U0001d41a", "\u0161", "\u012d",
		"\x80", "\xff", "a\xff", "\xffa", "a\xc3", "\xe1", "\xc1\xa1", "\ufffd",
		letters64 + "a", "a" + letters64, letters64 + "A", letters64 + ":", letters64 + " ", letters64 + letters64, strings.Repeat("a", 65), strings.Repeat("a", 128), strings.Repeat("a", 256), strings.Repeat("a", 256+7), strings.Repeat("a", 1<<16+7), strings.Repeat("a", 1<<20), strings.Repeat("\u00e9", 32), strings.Repeat("\xff", 64), letters64[:62] + "\u00e9", letters64[:63] + "\xff",
	}
	for i := range 64 {
		for _, x := range []string{"A", " ", ":", "/", "\t", "\x00", "\x7f", "\xff", "\u212a"} {
			l = append(l, letters64[:i]+x+letters64[i+1:])
		}
	}
	return l
}

// goodValues are values that may be.
func goodValues() []string {
	l := []string{"", "a", "a b", "a\tb", "a \t b", "a.b", "a.b:80", "5", "05", "chunked", "gzip, chunked", "text/html; charset=\"utf-8\"", ":", "::", "a:b", ":a", "a: b", "~", "!", "!~", "~ !", "\"", "\\", "{}", "(a)", "<a>", "%00", "%zz", "*", ",", ", ,", "W/\"x\"", "A", "Z", "a=b; c=d", "Mon, 01 Jan 2001 00:00:00 GMT", letters32, value512, value512[:511], strings.Repeat("a", 511), strings.Repeat("a", 512), "a" + strings.Repeat(" ", 510) + "b", "a" + strings.Repeat("\t", 510) + "b", strings.Repeat("a ", 255) + "a", strings.Repeat(":", 512)}
	for x := 33; x <= 126; x++ {
		c := string(rune(x))
		l = append(l, c, c+c, c+" "+c, c+"\t"+c)
	}
	return l
}

// badValues are values that may not be.
func badValues() []string {
	l := []string{
		" ", "  ", "\t", " \t", "\t\t", " a", "a ", " a ", "\ta", "a\t", "\ta\t", " \ta", "a\t ", "a b ", " a b", strings.Repeat(" ", 512), strings.Repeat("\t", 512),
		"\n", "\r", "\r\n", "a\n", "a\r", "a\r\n", "\na", "\ra", "\r\na", "a\nb", "a\rb", "a\r\nb", "a\r\n b", "a\r\n\tb", "a\r\nb: c", "\v", "\f", "a\vb", "a\fb", "a\v", "\fa",
		"\x00", "a\x00", "\x00a", "a\x00b", "\x01", "a\x01b", "\x08", "a\x08b", "\x0e", "\x1f", "a\x1fb", "\x7f", "a\x7f", "\x7fa", "a\x7fb",
		"\x80", "\x85", "\xa0", "\xff", "a\xff", "\xffa", "a\xffb", "\xc2", "\u00a0", "\u0085", "a\u00a0", "\u00a0a", "\u2003a", "a\u2028b", "\u00e9", "caf\u00e9", "\u212a", "\uff41", "\u3000", "a\u0301", "\ufeffa", "\u200ba", "\u0120", "\u010a", "\u0161", "\U0001d41a", "\ufffd", "a\ufffdb",
		value512 + "a", "a" + value512, value512 + value512, value512 + " ", " " + value512, value512[:511] + "\x00", value512[:511] + " ", value512[:511] + "\xff", value512[:510] + "\u00e9",
		strings.Repeat("a", 513), strings.Repeat("a", 514), strings.Repeat("a", 578), strings.Repeat("a", 1024), strings.Repeat("a", 1<<16), strings.Repeat("a", 1<<16+9), strings.Repeat("a", 1<<20), "a" + strings.Repeat(" ", 511) + "b", strings.Repeat("\u00e9", 256), strings.Repeat("\xff", 512),
	}
	for i := range 512 {
		for _, x := range []string{"\n", "\x00", "\x7f", "\xff"} {
			l = append(l, value512[:i]+x+value512[i+1:])
		}
	}
	return l
}

// goodHeads are headers that may be.
func goodHeads() []api.Head {
	var l []api.Head
	for _, s := range goodNames() {
		l = append(l, api.Head{Name: s, Value: "a b"}, api.Head{Name: s})
	}
	for _, s := range goodValues() {
		l = append(l, api.Head{Name: "x", Value: s}, api.Head{Name: "content-length", Value: s})
	}
	return append(l, api.Head{Name: letters64, Value: value512})
}

// badHeads are headers that may not be.
func badHeads() []api.Head {
	l := []api.Head{{}}
	for _, s := range badNames() {
		l = append(l, api.Head{Name: s, Value: "a"}, api.Head{Name: s})
	}
	for _, s := range badValues() {
		l = append(l, api.Head{Name: "x", Value: s})
	}
	return append(l, api.Head{Name: "Host", Value: " a"})
}

// fewBad are some headers that may not be, for one reason each.
func fewBad() []api.Head {
	return []api.Head{{}, {Value: "a"}, {Name: "A", Value: "a"}, {Name: "a b"}, {Name: "a:"}, {Name: "\u212a"}, {Name: letters64 + "a"}, {Name: "a", Value: " "}, {Name: "a", Value: " b"}, {Name: "a", Value: "b\t"}, {Name: "a", Value: "b\r\nc: d"}, {Name: "a", Value: "\x00"}, {Name: "a", Value: "\x7f"}, {Name: "a", Value: "\xff"}, {Name: "a", Value: value512 + "a"}}
}

// someText answers a text of 1 to most bytes, of the letters; r says which.
func someText(r *rand.Rand, most int, letters string) string {
	n := 1 + r.Intn(min(most, 8))
	if r.Intn(8) == 0 {
		n = 1 + r.Intn(most)
	}
	b := make([]byte, n)
	for i := range b {
		b[i] = letters[r.Intn(len(letters))]
	}
	return string(b)
}

// someHead answers a header that may be; r says which.
func someHead(r *rand.Rand) api.Head {
	return api.Head{Name: someText(r, 64, letters64), Value: strings.Trim(someText(r, 512, letters32+letters64[:26]+"AZ \t"), " \t")}
}

// someRow answers headers, many of a name, of which some may not be; r says which.
func someRow(r *rand.Rand) []api.Head {
	names := []string{"a", "b", "A", "host", "Host", "content-length", "", "a ", "x-a"}
	l := make([]api.Head, r.Intn(12))
	for i := range l {
		l[i] = api.Head{Name: names[r.Intn(len(names))], Value: fmt.Sprint(r.Intn(6))}
	}
	return l
}

// blanked answers a text of up to most blanks and tabs; r says which.
func blanked(r *rand.Rand, most int) string {
	b := make([]byte, r.Intn(most+1))
	for i := range b {
		b[i] = " \t"[r.Intn(2)]
	}
	return string(b)
}

// resized answers s with some of its small letters in the other size; r says which.
func resized(r *rand.Rand, s string) string {
	b := []byte(s)
	for i, c := range b {
		if c >= 'a' && c <= 'z' && r.Intn(2) == 0 {
			b[i] = c - 32
		}
	}
	return string(b)
}

// edited answers s with some bytes put in, taken out or changed; r says which.
func edited(r *rand.Rand, s string) string {
	return probe.Edited(s, "aZ09::  \t\t-/\r\n\x00\x7f\x80\xff", r.Intn)
}

// lentText answers s in memory that can be scrubbed.
func lentText(s string) (string, []byte) {
	b := []byte(s)
	return unsafe.String(unsafe.SliceData(b), len(b)), b
}

// lent answers the headers, their texts in memory that scrub makes others.
func lent(l []api.Head) (given []api.Head, scrub func()) {
	var memory [][]byte
	for _, h := range l {
		name, b := lentText(h.Name)
		value, c := lentText(h.Value)
		given = append(given, api.Head{Name: name, Value: value})
		memory = append(memory, b, c)
	}
	return given, func() {
		for _, b := range memory {
			probe.Scrub(b)
		}
		for i := range given {
			given[i] = api.Head{Name: "scrubbed", Value: "it"}
		}
	}
}
