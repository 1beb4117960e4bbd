package name_test

import (
	"math/rand"
	"regexp"
	"strings"
	"testing"
	"unsafe"

	"gatepost/api"
	"gatepost/name"
	"gatepost/probe"
)

// The words of a label and of a name's text, for the library's expressions; \z, as $ would let a line's end follow.
var (
	labelForm = regexp.MustCompile(`\A[a-z0-9]([a-z0-9-]{0,18}[a-z0-9])?\z`)
	textForm  = regexp.MustCompile(`\Aspiffe://mesh/ns/([^/]*)/sa/([^/]*)\z`)
)

const letters20 = "abcdefghijklmnopqrst"

// goodLabels are labels that may be: of 1 byte, of 20, and between, with - at each place that it may have; some of them parts of a text.
func goodLabels() []string {
	l := []string{
		"a", "z", "0", "9", "ab", "a0", "0a", "00", "a-b", "a--b", "0-0", "a-b-c", "shop", "web-1", "ns", "sa", "mesh", "spiffe",
		letters20, letters20[:19], "01234567890123456789", strings.Repeat("a", 20), strings.Repeat("0", 20),
		"a" + strings.Repeat("-", 18) + "z", "0" + strings.Repeat("-", 17) + "9", "xn--a",
	}
	for i := 1; i < 19; i++ {
		l = append(l, letters20[:i]+"-"+letters20[i+1:], letters20[:i])
	}
	return l
}

// badLabels are labels that may not be.
func badLabels() []string {
	l := []string{
		"", "-", "--", strings.Repeat("-", 20), "-a", "a-", "-a-", "--a", "a--", "-" + letters20[:19], letters20[:19] + "-", "-" + letters20[:18] + "-",
		letters20 + "u", letters20 + "-", "-" + letters20, letters20 + "A", letters20 + "-u", strings.Repeat("a", 21), strings.Repeat("0", 21), "a" + strings.Repeat("-", 19) + "z",
		strings.Repeat("a", 22), strings.Repeat("a", 40), strings.Repeat("a", 64), strings.Repeat("a", 255), strings.Repeat("a", 256), strings.Repeat("a", 257), strings.Repeat("a", 256+7), strings.Repeat("a", 1<<16+7), strings.Repeat("a", 1<<20), strings.Repeat("-", 1<<20),
		"A", "Z", "Web", "wEb", "weB", "SHOP", " ", " a", "a ", "a b", "\t", "a\t", "\n", "a\n", "\na", "a\r\n", "a\nb", "\x00", "a\x00", "\x00a", "a\x00b", "\x7f", "\x1f",
		".", "a.", ".a", "a.b", "..", "/", "a/", "/a", "a/b", "//", "\\", "_", "a_", "_a", "a_b", "a:b", "a@b", "a+b", "a,b", "a=b", "a%b", "a*", "*", "a?b", "a#b", "a`", "{a", "a[0]", "a{", "0/", "0:", "a~b",
		"\u00e9", "caf\u00e9", "\u0430", "\u0661", "\uff11", "\uff41", "\u212a", "\u017f", "\u0131", "a\u2010b", "a\u2212b", "a\u00adb", "a\u0301", "\U0001d41a", "\u200ba", "\ufeffa", "a\ufeff", "\u010161",
		"\x80", "\xff", "\xc0", "a\xff", "\xffa", "a\xffb", "a\xc3", "\xe1", "\xed\xa0\x80", "\xc1\xa1", "\xe0\x81\xa1", "\xf4\x90\x80\x80", "\xf8\x88\x80\x80\x80", "\ufffd", "a\ufffdb",
		strings.Repeat("\u00e9", 10), strings.Repeat("\xff", 20), letters20[:19] + "\xff", letters20[:18] + "\u00e9", letters20[:19] + "\u00e9",
	}
	for i := range 20 {
		for _, x := range []string{"A", " ", ".", "/", "_", "\x00", "\xff", "\u00e9"} {
			l = append(l, letters20[:i]+x+letters20[i+1:])
		}
	}
	return l
}

// someLabels are some of both.
func someLabels() []string {
	return []string{
		"a", "b", "0", "ab", "a-b", "a--b", "web", "web-1", "web-10", "shop", "ns", "sa", letters20, letters20[:19], strings.Repeat("a", 20),
		"", "-", "-a", "a-", "A", "a/b", "a.b", "a_b", "a b", "/", "/sa/", "a/sa/b", "a\x00", "\x00", "a\xff", "\xff", "\u00e9", letters20 + "u", strings.Repeat("a", 100),
	}
}

// someNames are names of each two of someLabels.
func someNames() []api.Name {
	var l []api.Name
	for _, ns := range someLabels() {
		for _, sa := range someLabels() {
			l = append(l, api.Name{Ns: ns, Sa: sa})
		}
	}
	return l
}

// mayBe tells by the expression whether both labels may be.
func mayBe(n api.Name) bool {
	return labelForm.MatchString(n.Ns) && labelForm.MatchString(n.Sa)
}

// someLabel answers a label that may be; r says which.
func someLabel(r *rand.Rand) string {
	const plain = "abcdefghijklmnopqrstuvwxyz0123456789"
	b := make([]byte, 1+r.Intn(20))
	for i := range b {
		b[i] = plain[r.Intn(len(plain))]
		if i > 0 && i < len(b)-1 && r.Intn(4) == 0 {
			b[i] = '-'
		}
	}
	return string(b)
}

// edited answers s with some bytes put in, taken out or changed; r says which.
func edited(r *rand.Rand, s string) string {
	return probe.Edited(s, "abz09--/-AZ ._:\x00\x80\xc3\xa9\xff", r.Intn)
}

// shares tells whether two texts have a byte of memory together.
func shares(s, x string) bool {
	if s == "" || x == "" {
		return false
	}
	from, other := uintptr(unsafe.Pointer(unsafe.StringData(s))), uintptr(unsafe.Pointer(unsafe.StringData(x)))
	return from < other+uintptr(len(x)) && other < from+uintptr(len(s))
}

// checkLabel tells if s is taken otherwise than by the expression, and answers whether it may be.
func checkLabel(t *testing.T, s string) bool {
	t.Helper()
	want := labelForm.MatchString(s)
	if name.MayLabel(s) != want {
		t.Errorf("MayLabel(%.200q): %v", s, !want)
	}
	return want
}

// checkParse tells if s is read otherwise than by the expressions, and answers whether it is a name's text.
func checkParse(t *testing.T, s string) bool {
	t.Helper()
	var want api.Name
	if parts := textForm.FindStringSubmatch(s); parts != nil {
		want = api.Name{Ns: parts[1], Sa: parts[2]}
	}
	ok, wantErr := mayBe(want), api.OK
	if !ok {
		want, wantErr = api.Name{}, api.ErrForm
	}
	if n, err := name.Parse(s); n != want || err != wantErr {
		t.Errorf("Parse(%.200q): %q, %d; want %q, %d", s, n, err, want, wantErr)
	}
	return ok
}

func TestP5_1Labels(t *testing.T) {
	for _, s := range goodLabels() {
		if !name.MayLabel(s) || !checkLabel(t, s) {
			t.Errorf("%q may be", s)
		}
	}
	for _, s := range badLabels() {
		if name.MayLabel(s) || checkLabel(t, s) {
			t.Errorf("%.200q may not be", s)
		}
	}
}

// Labels of all lengths near the limit and far beyond it: bytes count, not letters.
func TestP5_1Lengths(t *testing.T) {
	for n := range 600 {
		for _, s := range []string{"a", "0", "-", "A", "\u00e9", "\xff"} {
			may := checkLabel(t, strings.Repeat(s, n))
			if want := n >= 1 && n <= 20 && (s == "a" || s == "0"); may != want {
				t.Fatalf("the expression takes %d times %q otherwise than the words", n, s)
			}
			checkLabel(t, "a"+strings.Repeat(s, n)+"a")
			checkLabel(t, strings.Repeat("a", n)+s)
			checkLabel(t, s+strings.Repeat("a", n))
		}
	}
}

// Every byte, alone, and at every place of labels of every length, put in or in the place of another one.
func TestP5_1EachByte(t *testing.T) {
	alone := 0
	for x := range 256 {
		if checkLabel(t, string([]byte{byte(x)})) {
			alone++
		}
	}
	if alone != 36 {
		t.Errorf("%d labels of one byte", alone)
	}
	for n := range 22 {
		for near := range probe.Near((letters20 + "uv")[:n]) {
			checkLabel(t, near)
		}
	}
}

// Every label of two bytes, and of three and four of some.
func TestP5_1Short(t *testing.T) {
	for x := range 1 << 16 {
		checkLabel(t, string([]byte{byte(x >> 8), byte(x)}))
	}
	const some = "az09-A/ \xff"
	for _, x := range []byte(some) {
		for _, y := range []byte(some) {
			for _, z := range []byte(some) {
				checkLabel(t, string([]byte{x, y, z}))
				checkLabel(t, string([]byte{x, y, '-', z}))
			}
		}
	}
}

func TestP5_1Edited(t *testing.T) {
	r := rand.New(rand.NewSource(1))
	fine := 0
	for range 50000 {
		if checkLabel(t, edited(r, someLabel(r))) {
			fine++
		}
	}
	if fine < 10000 || fine > 40000 {
		t.Errorf("%d of 50000 labels may be: not both often", fine)
	}
}

func TestP5_1May(t *testing.T) {
	for _, good := range goodLabels() {
		if !name.May(api.Name{Ns: good, Sa: good}) || !name.May(api.Name{Ns: "shop", Sa: good}) || !name.May(api.Name{Ns: good, Sa: "web-1"}) {
			t.Errorf("names of %q may be", good)
		}
		for _, bad := range badLabels() {
			if name.May(api.Name{Ns: good, Sa: bad}) || name.May(api.Name{Ns: bad, Sa: good}) {
				t.Errorf("names of %q and %.200q may not be", good, bad)
			}
		}
	}
	for _, bad := range badLabels() {
		if name.May(api.Name{Ns: bad, Sa: bad}) {
			t.Errorf("a name of %.200q twice may not be", bad)
		}
	}
	for _, n := range someNames() {
		if may := name.May(n); may != mayBe(n) {
			t.Errorf("May(%q): %v", n, may)
		}
	}
}

func TestP5_2Examples(t *testing.T) {
	if s, err := name.Print(api.Name{Ns: "shop", Sa: "web-1"}); s != "spiffe://mesh/ns/shop/sa/web-1" || err != api.OK {
		t.Errorf("Print: %q, %d", s, err)
	}
	for _, s := range []string{"spiffe://mesh/ns/shop/sa/", "spiffe://mesh/ns/shop/sa/Web", "spiffe://mesh/ns/shop/sa/-a"} {
		if n, err := name.Parse(s); n != (api.Name{}) || err != api.ErrForm {
			t.Errorf("Parse(%q): %q, %d", s, n, err)
		}
	}
}

func TestP5_2Print(t *testing.T) {
	for _, n := range someNames() {
		want, wantErr := "spiffe://mesh/ns/"+n.Ns+"/sa/"+n.Sa, api.OK
		if !mayBe(n) {
			want, wantErr = "", api.ErrArg
		}
		if s, err := name.Print(n); s != want || err != wantErr {
			t.Errorf("Print(%q): %q, %d; want %q, %d", n, s, err, want, wantErr)
		}
	}
	for _, bad := range badLabels() {
		for _, n := range []api.Name{{Ns: bad, Sa: "a"}, {Ns: "a", Sa: bad}, {Ns: bad, Sa: bad}} {
			if s, err := name.Print(n); s != "" || err != api.ErrArg {
				t.Errorf("Print(%.200q): %.200q, %d", n, s, err)
			}
		}
	}
}

func TestP5_2Parse(t *testing.T) {
	for s, want := range map[string]api.Name{
		"spiffe://mesh/ns/shop/sa/web-1":                                   {Ns: "shop", Sa: "web-1"},
		"spiffe://mesh/ns/a/sa/b":                                          {Ns: "a", Sa: "b"},
		"spiffe://mesh/ns/0/sa/0":                                          {Ns: "0", Sa: "0"},
		"spiffe://mesh/ns/ns/sa/sa":                                        {Ns: "ns", Sa: "sa"},
		"spiffe://mesh/ns/sa/sa/ns":                                        {Ns: "sa", Sa: "ns"},
		"spiffe://mesh/ns/sa/sa/sa":                                        {Ns: "sa", Sa: "sa"},
		"spiffe://mesh/ns/mesh/sa/mesh":                                    {Ns: "mesh", Sa: "mesh"},
		"spiffe://mesh/ns/" + letters20 + "/sa/" + strings.Repeat("9", 20): {Ns: letters20, Sa: strings.Repeat("9", 20)},
	} {
		if n, err := name.Parse(s); n != want || err != api.OK {
			t.Errorf("Parse(%q): %q, %d", s, n, err)
		}
	}
	for _, n := range someNames() {
		s := "spiffe://mesh/ns/" + n.Ns + "/sa/" + n.Sa
		if ok := checkParse(t, s); ok != mayBe(n) {
			t.Errorf("the expression takes %q otherwise than the words", s)
		}
	}
	for _, bad := range badLabels() {
		checkParse(t, "spiffe://mesh/ns/"+bad+"/sa/a")
		checkParse(t, "spiffe://mesh/ns/a/sa/"+bad)
		checkParse(t, bad)
	}
}

func TestP5_2ParseWrong(t *testing.T) {
	const fine = "spiffe://mesh/ns/shop/sa/web"
	for _, s := range []string{
		"", " ", "/", "//", "a", "nobody", "shop", "shop/web", "shop/sa/web", "/sa/", "/sa/web", "ns/shop/sa/web", "/ns/shop/sa/web", "mesh/ns/shop/sa/web", "//mesh/ns/shop/sa/web", "://mesh/ns/shop/sa/web",
		"spiffe:", "spiffe://", "spiffe://mesh", "spiffe://mesh/", "spiffe://mesh/ns", "spiffe://mesh/ns/", "spiffe://mesh/ns//", "spiffe://mesh/ns/shop", "spiffe://mesh/ns/shop/", "spiffe://mesh/ns/shop/sa", "spiffe://mesh/ns/shop/web", "spiffe://mesh/ns/sa/web", "spiffe://mesh/ns/sa/",
		"spiffe://mesh/ns/shop/sa/", "spiffe://mesh/ns//sa/web", "spiffe://mesh/ns//sa/", "spiffe://mesh/ns/sa//sa/", "spiffe://mesh/sa/web", "spiffe://mesh/sa/web/ns/shop", "spiffe://mesh/shop/web", "spiffe://mesh/shop/sa/web",
		fine + "/", fine + "//", fine + "/a", fine + "/sa/", fine + "/sa/web", fine + "/ns/shop", "/" + fine, fine + fine, fine + "/" + fine, fine + " ", " " + fine, fine + "\n", fine + "\x00", "\x00" + fine, fine + "?", fine + "#a", fine + ".", fine + ":80", "\ufeff" + fine,
		"Spiffe://mesh/ns/shop/sa/web", "SPIFFE://mesh/ns/shop/sa/web", "spiffe://Mesh/ns/shop/sa/web", "spiffe://mesh/NS/shop/sa/web", "spiffe://mesh/ns/shop/SA/web", "spiffe://mesh/ns/Shop/sa/web", "spiffe://mesh/ns/shop/sa/weB", strings.ToUpper(fine),
		"https://mesh/ns/shop/sa/web", "spiffe:/mesh/ns/shop/sa/web", "spiffe:///mesh/ns/shop/sa/web", "spiffe//mesh/ns/shop/sa/web", "spiffe://mash/ns/shop/sa/web", "spiffe:///ns/shop/sa/web", "spiffe://cluster.local/ns/shop/sa/web", "spiffe://mesh:80/ns/shop/sa/web", "spiffe://a@mesh/ns/shop/sa/web", "spiffe://mesh./ns/shop/sa/web",
		"spiffe://mesh//ns/shop/sa/web", "spiffe://mesh/ns//shop/sa/web", "spiffe://mesh/ns/shop//sa/web", "spiffe://mesh/ns/shop/sa//web", "spiffe://mesh/ns/shop/sa/web/", "spiffe://mesh/ns/a/b/sa/web", "spiffe://mesh/ns/shop/sa/a/b", "spiffe://mesh/ns/a/sa/b/sa/c", "spiffe://mesh/ns/sa/sa/sa/sa",
		"spiffe://mesh/ns/shop/sb/web", "spiffe://mesh/ms/shop/sa/web", "spiffe://mesh/ns/shop\\sa\\web", "spiffe:\\\\mesh\\ns\\shop\\sa\\web", "spiffe://mesh/ns/shop/%73a/web", "spiffe://mesh/ns/sh%6fp/sa/web", "spiffe://mesh/./ns/shop/sa/web", "spiffe://mesh/ns/shop/../sa/web",
		"spiffe://mesh/ns/" + letters20 + "u/sa/web", "spiffe://mesh/ns/shop/sa/" + letters20 + "u", strings.Repeat("/", 1000), strings.Repeat("/sa/", 1000), "spiffe://mesh/ns/" + strings.Repeat("/sa/", 1000), "spiffe://mesh/ns/" + strings.Repeat("sa/", 1000),
		fine + strings.Repeat("b", 1<<20), strings.Repeat("a", 1<<20), strings.Repeat(fine, 1000), "spiffe://mesh/ns/" + strings.Repeat("a", 1<<20) + "/sa/web", strings.Repeat("spiffe://mesh/ns/", 1000),
	} {
		if checkParse(t, s) {
			t.Errorf("the expression takes %.200q", s)
		}
	}
	for i := range len(fine) - len("web") + 1 {
		if checkParse(t, fine[:i]) {
			t.Errorf("the expression takes %q", fine[:i])
		}
	}
}

// Texts of all lengths up to beyond MaxText, by the namespace, by the account or by what stands behind: labels end them at 61 bytes.
func TestP5_2ParseLengths(t *testing.T) {
	longest := 0
	for n := range 90 {
		for _, s := range []string{
			"spiffe://mesh/ns/" + strings.Repeat("a", n) + "/sa/b",
			"spiffe://mesh/ns/b/sa/" + strings.Repeat("a", n),
			"spiffe://mesh/ns/" + strings.Repeat("a", n/2) + "/sa/" + strings.Repeat("b", n-n/2),
			"spiffe://mesh/ns/" + letters20 + "/sa/" + strings.Repeat("b", n),
			"spiffe://mesh/ns/" + strings.Repeat("a", n) + "/sa/" + letters20,
			"spiffe://mesh/ns/a/sa/b" + strings.Repeat("-", n),
			strings.Repeat("a", n),
			strings.Repeat("a", n) + "spiffe://mesh/ns/a/sa/b",
		} {
			if checkParse(t, s) {
				longest = max(longest, len(s))
			}
		}
	}
	if longest != 61 {
		t.Errorf("the longest text has %d bytes", longest)
	}
	for _, n := range []int{62, 63, api.MaxText, api.MaxText + 1} {
		s := "spiffe://mesh/ns/" + letters20 + "/sa/" + strings.Repeat("b", n-41)
		if len(s) != n || checkParse(t, s) {
			t.Errorf("%q, of %d bytes", s, len(s))
		}
	}
}

// Every byte, at every place of texts, put in or in the place of another one; every beginning and end of them.
func TestP5_2ParseEachByte(t *testing.T) {
	for _, s := range []string{"spiffe://mesh/ns/shop/sa/web-1", "spiffe://mesh/ns/a/sa/0", "spiffe://mesh/ns/sa/sa/sa", "spiffe://mesh/ns/" + letters20 + "/sa/" + letters20} {
		for near := range probe.Near(s) {
			checkParse(t, near)
		}
	}
}

func TestP5_2ParseEdited(t *testing.T) {
	r := rand.New(rand.NewSource(2))
	fine := 0
	for range 50000 {
		if checkParse(t, edited(r, "spiffe://mesh/ns/"+someLabel(r)+"/sa/"+someLabel(r))) {
			fine++
		}
	}
	if fine < 10000 || fine > 40000 {
		t.Errorf("%d of 50000 texts are names: not both often", fine)
	}
}

// What is parsed is new memory, and does not keep the text.
func TestP5_4ParseIsNew(t *testing.T) {
	for _, s := range []string{"spiffe://mesh/ns/shop/sa/web-1", "spiffe://mesh/ns/a/sa/b", "spiffe://mesh/ns/" + letters20 + "/sa/" + letters20} {
		given := strings.Clone(s)
		n, err := name.Parse(given)
		again, _ := name.Parse(given)
		if err != api.OK || given != s {
			t.Errorf("%q: %d, it is %q now", s, err, given)
		}
		if shares(n.Ns, given) || shares(n.Sa, given) || shares(n.Ns, again.Ns) || shares(n.Sa, again.Sa) || shares(n.Ns, n.Sa) {
			t.Errorf("%q: what is parsed shares memory", s)
		}
	}
}

func TestP5_4PrintIsNew(t *testing.T) {
	n := api.Name{Ns: strings.Clone("shop"), Sa: strings.Clone("web-1")}
	s, _ := name.Print(n)
	again, _ := name.Print(n)
	if n != (api.Name{Ns: "shop", Sa: "web-1"}) || shares(s, n.Ns) || shares(s, n.Sa) || shares(s, again) {
		t.Errorf("%q: %q, or it shares memory", n, s)
	}
}

func TestP5_5ThereAndBack(t *testing.T) {
	r := rand.New(rand.NewSource(3))
	names := someNames()
	for _, good := range goodLabels() {
		names = append(names, api.Name{Ns: good, Sa: "web"}, api.Name{Ns: "shop", Sa: good}, api.Name{Ns: good, Sa: good})
	}
	for range 20000 {
		names = append(names, api.Name{Ns: someLabel(r), Sa: someLabel(r)})
	}
	longest, there := 0, 0
	for _, n := range names {
		s, err := name.Print(n)
		if err != api.OK {
			continue
		}
		there++
		longest = max(longest, len(s))
		if back, err := name.Parse(s); back != n || err != api.OK {
			t.Errorf("%q: %q, %q, %d", n, s, back, err)
		}
	}
	if there < 20000 || longest != 61 || longest > api.MaxText {
		t.Errorf("%d texts, the longest one of %d bytes", there, longest)
	}
}

// A text that is parsed is its name's: no name has two.
func TestP5_5TextsBack(t *testing.T) {
	r := rand.New(rand.NewSource(4))
	parsed := 0
	for range 50000 {
		s := edited(r, "spiffe://mesh/ns/"+someLabel(r)+"/sa/"+someLabel(r))
		n, err := name.Parse(s)
		if err != api.OK {
			continue
		}
		parsed++
		if back, err := name.Print(n); back != s || err != api.OK || len(s) > api.MaxText {
			t.Errorf("%q is parsed as %q, whose text is %q, %d", s, n, back, err)
		}
	}
	if parsed < 10000 {
		t.Errorf("%d texts are parsed: too few", parsed)
	}
}

func TestP5_5Beginnings(t *testing.T) {
	r := rand.New(rand.NewSource(5))
	var names []api.Name
	labels := []string{"a", "ab", "abc", "a-b", "a-b-c", "s", "sa", "sa-sa", "n", "ns", "web", "web-1", "web-10", letters20, letters20[:19], letters20[:1]}
	for range 20 {
		labels = append(labels, someLabel(r))
	}
	for _, ns := range labels {
		for _, sa := range labels {
			names = append(names, api.Name{Ns: ns, Sa: sa})
		}
	}
	begun := 0
	for _, n := range names {
		s, _ := name.Print(n)
		for _, m := range names {
			x, _ := name.Print(m)
			begins := strings.HasPrefix(s, x)
			if begins != (n.Ns == m.Ns && strings.HasPrefix(n.Sa, m.Sa)) {
				t.Errorf("%q begins with %q: %v", s, x, begins)
			}
			if begins && n != m {
				begun++
			}
		}
	}
	if begun < 100 {
		t.Errorf("%d texts begin with another one: too few", begun)
	}
}
