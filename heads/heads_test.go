package heads_test

import (
	"fmt"
	"math/rand"
	"slices"
	"strings"
	"testing"

	"gatepost/api"
	"gatepost/heads"
	"gatepost/probe"
)

// checkName tells if the name is taken otherwise than by the words, and answers whether it may be.
func checkName(t *testing.T, s string) bool {
	t.Helper()
	want := isName(s)
	if heads.MayName(s) != want {
		t.Errorf("MayName(%.200q): %v", s, !want)
	}
	return want
}

// checkValue tells if the value is taken otherwise than by the words, and answers whether it may be.
func checkValue(t *testing.T, s string) bool {
	t.Helper()
	want := isValue(s)
	if heads.MayValue(s) != want {
		t.Errorf("MayValue(%.200q): %v", s, !want)
	}
	return want
}

func TestP9_1Names(t *testing.T) {
	for _, s := range goodNames() {
		if !heads.MayName(s) || !checkName(t, s) {
			t.Errorf("the name %q may be", s)
		}
	}
	for _, s := range badNames() {
		if heads.MayName(s) || checkName(t, s) {
			t.Errorf("the name %.200q may not be", s)
		}
	}
}

func TestP9_1Values(t *testing.T) {
	for _, s := range goodValues() {
		if !heads.MayValue(s) || !checkValue(t, s) {
			t.Errorf("the value %q may be", s)
		}
	}
	for _, s := range badValues() {
		if heads.MayValue(s) || checkValue(t, s) {
			t.Errorf("the value %.200q may not be", s)
		}
	}
}

// Every byte, alone, between others, and at every place of longer texts, put in or in the place of another one.
func TestP9_1EachByte(t *testing.T) {
	names, values, within := 0, 0, 0
	for x := range 256 {
		c := string([]byte{byte(x)})
		if checkName(t, c) {
			names++
		}
		if checkValue(t, c) {
			values++
		}
		if checkValue(t, "a"+c+"b") {
			within++
		}
	}
	if names != 26+10+15 || values != 94 || within != 96 {
		t.Errorf("of one byte %d names and %d values, %d bytes within values", names, values, within)
	}
	for _, s := range []string{"", "a", "x-a", "a b", "content-length", letters64[:62], letters64[:63], letters64, value512[:64]} {
		for near := range probe.Near(s) {
			checkName(t, near)
			checkValue(t, near)
		}
	}
	for _, s := range []string{value512[:510], value512[:511], value512} {
		for i := range len(s) + 1 {
			for _, x := range []string{"a", " ", "\t", "\n", "\x1f", "\x7f", "\x80", "\u00e9"} {
				checkValue(t, s[:i]+x+s[i:])
			}
		}
	}
}

// Texts of all lengths near the limits and far beyond them: bytes count, not letters.
func TestP9_1Lengths(t *testing.T) {
	for n := range 1100 {
		for _, s := range []string{"a", "0", "~", "A", " ", "\t", "\u00e9", "\xff"} {
			long := strings.Repeat(s, n)
			if want := n >= 1 && n <= 64 && strings.Contains("a0~", s); checkName(t, long) != want {
				t.Fatalf("the expression takes %d times %q for a name otherwise than the words", n, s)
			}
			if want := n == 0 || n <= 512 && strings.Contains("a0~A", s); checkValue(t, long) != want {
				t.Fatalf("the expression takes %d times %q for a value otherwise than the words", n, s)
			}
			for _, x := range []string{"a" + long + "a", long + "a", "a" + long} {
				checkName(t, x)
				checkValue(t, x)
			}
		}
	}
}

func TestP9_1Short(t *testing.T) {
	for x := range 1 << 16 {
		s := string([]byte{byte(x >> 8), byte(x)})
		checkName(t, s)
		checkValue(t, s)
	}
	names, values := 0, 0
	for _, s := range probe.Texts(5, "a", "Z", "-", ":", " ", "\t", "\n", "\x7f") {
		if checkName(t, s) {
			names++
		}
		if checkValue(t, s) {
			values++
		}
	}
	if names != 2+4+8+16+32 || values < 1000 {
		t.Errorf("%d names and %d values", names, values)
	}
}

func TestP9_1Edited(t *testing.T) {
	r := rand.New(rand.NewSource(1))
	names, values := 0, 0
	for range 50000 {
		h := someHead(r)
		if !checkName(t, h.Name) || !checkValue(t, h.Value) {
			t.Fatalf("%q may be", h)
		}
		if checkName(t, edited(r, h.Name)) {
			names++
		}
		if checkValue(t, edited(r, h.Value)) {
			values++
		}
	}
	for _, n := range []int{names, values} {
		if n < 10000 || n > 40000 {
			t.Errorf("of 50000 each %d names and %d values may be: not both often", names, values)
		}
	}
}

func TestP9_1Rows(t *testing.T) {
	if !heads.May() || !heads.May(nil...) || !heads.May([]api.Head{}...) {
		t.Error("no headers may be")
	}
	good := goodHeads()
	for n := range 60 {
		for _, l := range [][]api.Head{good[:n], slices.Repeat(good[:1], n), slices.Repeat([]api.Head{{Name: letters64, Value: value512}}, n)} {
			if got := heads.May(l...); got != (n <= 24) {
				t.Errorf("%d headers: %v", n, got)
			}
		}
		for _, bad := range fewBad() {
			if got := heads.May(slices.Repeat([]api.Head{bad}, n)...); got != (n == 0) {
				t.Errorf("%d times %.200q: %v", n, bad, got)
			}
		}
	}
	for _, n := range []int{256, 256 + 24, 1 << 16, 1<<16 + 1} {
		if heads.May(slices.Repeat(good[:1], n)...) {
			t.Errorf("%d headers may be", n)
		}
	}
	for _, h := range good {
		if !heads.May(h) || !heads.May(h, good[0]) || !heads.May(good[0], h) || !heads.May(h, h) {
			t.Errorf("%q may be", h)
		}
	}
}

// A header that may not be, at each place of rows of each length.
func TestP9_1RowsWithBadHeads(t *testing.T) {
	good := goodHeads()
	for _, bad := range badHeads() {
		if heads.May(bad) || heads.May(bad, good[0]) || heads.May(good[0], bad) {
			t.Errorf("rows with %.200q may be", bad)
		}
	}
	for _, bad := range fewBad() {
		for n := range 26 {
			for at := range n {
				l := slices.Clone(good[:n])
				l[at] = bad
				if heads.May(l...) {
					t.Errorf("%d headers, at %d %.200q, may be", n, at, bad)
				}
			}
		}
	}
}

// checkLine tells if the header has another line than by the words.
func checkLine(t *testing.T, h api.Head) {
	t.Helper()
	want, wantErr := h.Name+": "+h.Value, api.OK
	if !isHead(h) {
		want, wantErr = "", api.ErrArg
	}
	if s, err := heads.Line(h); s != want || err != wantErr {
		t.Errorf("Line(%.200q): %.200q, %d; want %.200q, %d", h, s, err, want, wantErr)
	}
}

// checkRead tells if the line is read otherwise than by the words, and answers whether it is a header's.
func checkRead(t *testing.T, line string) bool {
	t.Helper()
	want, wantErr := read(line)
	if h, err := heads.Read(line); h != want || err != wantErr {
		t.Errorf("Read(%.200q), of %d bytes: %.200q, %d; want %.200q, %d", line, len(line), h, err, want, wantErr)
	}
	return wantErr == api.OK
}

func TestP9_2Examples(t *testing.T) {
	if h, err := heads.Read("Host:  a.b "); h != (api.Head{Name: "host", Value: "a.b"}) || err != api.OK {
		t.Errorf("%q, %d", h, err)
	}
	for _, s := range []string{"Host : a", " Host: a", "Host", ": a"} {
		if h, err := heads.Read(s); h != (api.Head{}) || err != api.ErrForm {
			t.Errorf("%q: %q, %d", s, h, err)
		}
	}
}

func TestP9_2Line(t *testing.T) {
	for h, want := range map[api.Head]string{
		{Name: "host", Value: "a.b"}:            "host: a.b",
		{Name: "x"}:                             "x: ",
		{Name: "x", Value: ":"}:                 "x: :",
		{Name: "x", Value: "a \t b"}:            "x: a \t b",
		{Name: "~", Value: "A: B"}:              "~: A: B",
		{Name: letters64, Value: value512}:      letters64 + ": " + value512,
		{Name: letters64, Value: value512[:10]}: letters64 + ": " + value512[:10],
	} {
		if s, err := heads.Line(h); s != want || err != api.OK {
			t.Errorf("Line(%q): %q, %d", h, s, err)
		}
	}
	for _, h := range goodHeads() {
		if s, err := heads.Line(h); s != h.Name+": "+h.Value || err != api.OK {
			t.Errorf("Line(%q): %q, %d", h, s, err)
		}
		checkLine(t, h)
	}
	for _, h := range badHeads() {
		if s, err := heads.Line(h); s != "" || err != api.ErrArg {
			t.Errorf("Line(%.200q): %.200q, %d", h, s, err)
		}
		checkLine(t, h)
	}
}

func TestP9_2Read(t *testing.T) {
	for line, want := range map[string]api.Head{
		"x:": {Name: "x"}, "x: ": {Name: "x"}, "x:\t": {Name: "x"}, "x: \t \t": {Name: "x"}, "x:a": {Name: "x", Value: "a"}, "x: a": {Name: "x", Value: "a"}, "x:\ta": {Name: "x", Value: "a"}, "x: a ": {Name: "x", Value: "a"}, "x:a\t ": {Name: "x", Value: "a"}, "x: \ta\t ": {Name: "x", Value: "a"},
		"X:A": {Name: "x", Value: "A"}, "X-Ab:Cd": {Name: "x-ab", Value: "Cd"}, "HOST: A.B": {Name: "host", Value: "A.B"}, "cOnTeNt-LeNgTh:5": {Name: "content-length", Value: "5"},
		"x: a b": {Name: "x", Value: "a b"}, "x: a\tb ": {Name: "x", Value: "a\tb"}, "x: a  b": {Name: "x", Value: "a  b"}, "x::": {Name: "x", Value: ":"}, "x: :": {Name: "x", Value: ":"}, "x:a:b": {Name: "x", Value: "a:b"}, "x:y: z": {Name: "x", Value: "y: z"}, "x: y : z": {Name: "x", Value: "y : z"},
		"!#$%&'*+-.^_`|~:~": {Name: "!#$%&'*+-.^_`|~", Value: "~"}, "0:1": {Name: "0", Value: "1"}, "-:-": {Name: "-", Value: "-"}, "x:\"a\"": {Name: "x", Value: "\"a\""}, "Host: a.b:80": {Name: "host", Value: "a.b:80"},
		letters64 + ": " + value512:                                      {Name: letters64, Value: value512},
		strings.ToUpper(letters64) + ": " + value512:                     {Name: letters64, Value: value512},
		letters64 + ":" + value512 + "\t":                                {Name: letters64, Value: value512},
		"x:" + strings.Repeat(" ", 64) + value512:                        {Name: "x", Value: value512},
		"x:" + value512 + strings.Repeat(" ", 64):                        {Name: "x", Value: value512},
		"x:" + strings.Repeat("\t", 576):                                 {Name: "x"},
		"x:" + strings.Repeat(" ", 300) + "a" + strings.Repeat(" ", 275): {Name: "x", Value: "a"},
	} {
		if h, err := heads.Read(line); h != want || err != api.OK || !checkRead(t, line) {
			t.Errorf("Read(%q): %q, %d", line, h, err)
		}
	}
}

func TestP9_2ReadWrong(t *testing.T) {
	for _, line := range []string{
		"", ":", "::", ":a", ": a", " : a", "\t:a", " ", "\t", "a", "host", "Host a.b", "host=a.b", "Host\ta", " Host: a", "\tHost: a", "Host : a", "Host\t: a", "Host :a", " x:", "x :", "x\t:", "a b: c", "a\tb: c", "GET / HTTP/1.1", "a/b: c", "a,b: c", "(a): b", "\"a\": b", "a@b: c", "[a]: b", "{a}: b", "a\\: b", "a;: b", "a=: b", "<a>: b", "a?: b",
		"x: \x01", "x: a\x00", "x: \x00", "x:\x00a", "x: a\x7f", "x: a\x80", "x: \xff", "x: caf\u00e9", "x: \u00a0", "x:\u00a0a", "x: a\u2003", "x: a\u0085", "x:\va", "x: a\f", "x: a\r", "x: a\n", "x: a\r\n", "\r\nx: a", "\nx: a", "x: a\nb", "x: a\r\n b", "x: a\r\ny: b", "x:\r\n a", "x:\r", "x:\n", "x\r: a", "x\n: a", "x\x00: a", "\x00x: a", "x\x7f: a",
		"\u212a: a", "x\u212a: a", "ho\u017ft: a", "\u0130: a", "\uff21: a", "\u00c9: a", "\xff: a", "x\xff: a", "\ufeffx: a", "x\u200b: a", "x\uff1a a", "\u0410: a", "\u212A:", "CONTENT-\u212aENGTH: 5",
		letters64 + "a: b", letters64 + "A:b", letters64 + "a:", "x:" + value512 + "a", "x: " + value512 + "a", "x:" + strings.Repeat("a", 513), "x:" + strings.Repeat("a", 576), letters64[:63] + ":" + value512 + "aa", strings.Repeat("a", 578), strings.Repeat(":", 578), strings.Repeat(" ", 578), "x: a" + strings.Repeat(" ", 510) + "bcd", strings.Repeat("a", 577) + ":", strings.Repeat("\xff", 578), "x" + strings.Repeat(" ", 576) + ":",
	} {
		if h, err := heads.Read(line); h != (api.Head{}) || err != api.ErrForm || checkRead(t, line) {
			t.Errorf("Read(%.200q): %.200q, %d", line, h, err)
		}
	}
	for _, bad := range badNames() {
		checkRead(t, bad+": a")
		checkRead(t, bad)
	}
	for _, bad := range badValues() {
		checkRead(t, "x: "+bad)
		checkRead(t, "x:"+bad)
		checkRead(t, letters64+": "+bad)
	}
}

// Of 579 bytes on a line is too long, whatever they are.
func TestP9_2ReadLengths(t *testing.T) {
	for _, n := range []int{579, 580, 600, 1024, 1 << 16, 1<<16 + 10, 1 << 20} {
		for _, line := range []string{
			"x: a" + strings.Repeat(" ", n-4), "x:" + strings.Repeat(" ", n-3) + "a", "x:" + strings.Repeat("a", n-2), strings.Repeat("a", n), strings.Repeat("a", n-3) + ": b", strings.Repeat(" ", n), strings.Repeat(":", n), strings.Repeat("\x00", n), strings.Repeat("\xff", n), "Host : a" + strings.Repeat(" ", n-8), (letters64 + ": " + value512 + strings.Repeat(" ", n))[:n], strings.Repeat("\u00e9", n)[:n],
		} {
			if h, err := heads.Read(line); len(line) != n || h != (api.Head{}) || err != api.ErrLong {
				t.Errorf("%d bytes, %.20q: %.200q, %d", n, line, h, err)
			}
			checkRead(t, line)
		}
	}
	for n := range 700 {
		for _, line := range []string{
			"x:" + strings.Repeat("a", n), "x:" + strings.Repeat(" ", n), "x: a" + strings.Repeat("\t", n), "x:" + strings.Repeat(" ", n) + "a", strings.Repeat("a", n) + ":b", strings.Repeat("A", n) + ": ", strings.Repeat("a", n), letters64 + ": " + strings.Repeat("b", n), letters64 + ":" + strings.Repeat("b", n) + " ", "x:" + strings.Repeat("\u00e9", n), "x:a" + strings.Repeat(" ", n) + "b", strings.Repeat(" ", n) + "x:a", "x" + strings.Repeat(" ", n) + ":a",
		} {
			checkRead(t, line)
		}
	}
}

// Each byte as the last one of a name and as a value, ahead of a line and behind it.
func TestP9_2EachByte(t *testing.T) {
	names, values, ends := 0, 0, 0
	for x := range 256 {
		c := string([]byte{byte(x)})
		if checkRead(t, "x"+c+": a") {
			names++
		}
		if checkRead(t, "x: a"+c+"b") {
			values++
		}
		if checkRead(t, "x: a"+c) {
			ends++
		}
	}
	if names != 26+26+10+15+1 || values != 96 || ends != 96 { // behind a name a colon may stand, too
		t.Errorf("%d bytes of names, %d of values, %d at ends", names, values, ends)
	}
	for _, line := range []string{"x:", "Host:  a.b ", "x: a\tb", "X-A:\t1 2", letters64[:63] + ": a", letters64 + ": a"} {
		for near := range probe.Near(line) {
			checkRead(t, near)
		}
	}
	for _, line := range []string{letters64 + ": " + value512[:511], letters64 + ": " + value512, letters64 + ":" + value512} {
		for i := range len(line) + 1 {
			for _, c := range []string{"a", "A", " ", ":", "\t", "\n", "\x7f", "\xff"} {
				checkRead(t, line[:i]+c+line[i:])
			}
		}
	}
}

func TestP9_2Small(t *testing.T) {
	fine := 0
	for _, line := range probe.Texts(6, "a", "B", ":", " ", "\t", "\n", "/") {
		if checkRead(t, line) {
			fine++
		}
	}
	if fine < 1000 {
		t.Errorf("%d lines are headers': too few", fine)
	}
}

func TestP9_2Edited(t *testing.T) {
	r := rand.New(rand.NewSource(2))
	fine := 0
	for range 50000 {
		h := someHead(r)
		line := resized(r, h.Name) + ":" + blanked(r, 3) + h.Value + blanked(r, 3)
		checkRead(t, line)
		if checkRead(t, edited(r, line)) {
			fine++
		}
	}
	if fine < 10000 || fine > 40000 {
		t.Errorf("%d of 50000 lines are headers': not both often", fine)
	}
	for n := range 3000 {
		checkRead(t, string(probe.Bytes(int64(n), n%40)))
		checkRead(t, "x:"+string(probe.Bytes(int64(n), n%8)))
		checkRead(t, string(probe.Bytes(int64(n), n%600)))
	}
}

// told answers in new memory whatever the calls for one text tell of s.
func told(s string) string {
	line, err := heads.Line(api.Head{Name: s, Value: s})
	h, err2 := heads.Read(s)
	return fmt.Sprintf("%v %v %q %d %q %d", heads.MayName(s), heads.MayValue(s), line, err, h, err2)
}

// What is answered stays as it is, whatever becomes of what was handed in; and that is not changed.
func TestP9_5TextsAreNew(t *testing.T) {
	for _, s := range []string{"", "x", "host", "x:", "x:a", "x: a", "Host: a.b", "HOST:A.B", "host: a.b ", letters64, letters64 + ": " + value512, strings.ToUpper(letters64) + ":" + value512 + " ", "a b", "Host : a", "\xff: \xff"} {
		given, memory := lentText(s)
		first := told(given)
		h, _ := heads.Read(given)
		line, _ := heads.Line(api.Head{Name: given, Value: given})
		value, _ := heads.Line(api.Head{Name: "x", Value: given})
		before := fmt.Sprintf("%q %q %q", h, line, value)
		if given != s || told(given) != first {
			t.Errorf("%q is %q, or told of otherwise when asked again", s, given)
		}
		probe.Scrub(memory)
		if now := fmt.Sprintf("%q %q %q", h, line, value); now != before {
			t.Errorf("%q: %s is %s behind a change of what was given", s, before, now)
		}
		if told(s) != first {
			t.Errorf("%q: another answer behind a change of what was given", s)
		}
	}
}

func TestP9_6ThereAndBack(t *testing.T) {
	r := rand.New(rand.NewSource(3))
	l := goodHeads()
	for range 20000 {
		l = append(l, someHead(r))
	}
	longest := 0
	for _, h := range l {
		line, err := heads.Line(h)
		longest = max(longest, len(line))
		if back, err2 := heads.Read(line); back != h || err != api.OK || err2 != api.OK {
			t.Errorf("%q: %q, %d, and back %q, %d", h, line, err, back, err2)
		}
	}
	if longest != 578 {
		t.Errorf("the longest line has %d bytes", longest)
	}
}

// What is read may be, and its own line is read as it.
func TestP9_6LinesBack(t *testing.T) {
	r := rand.New(rand.NewSource(4))
	fine := 0
	lines := probe.Texts(5, "a", "B", ":", " ", "\t", "-", "\x7f")
	for range 50000 {
		h := someHead(r)
		lines = append(lines, edited(r, resized(r, h.Name)+":"+blanked(r, 3)+h.Value+blanked(r, 3)))
	}
	for _, s := range lines {
		h, err := heads.Read(s)
		if err != api.OK {
			continue
		}
		fine++
		line, err := heads.Line(h)
		if back, err2 := heads.Read(line); !heads.May(h) || back != h || err != api.OK || err2 != api.OK {
			t.Errorf("%q: %q, its line %q, %d, and back %q, %d", s, h, line, err, back, err2)
		}
	}
	if fine < 10000 {
		t.Errorf("%d lines are read: too few", fine)
	}
}

func TestP9_6SizesAndBlanks(t *testing.T) {
	r := rand.New(rand.NewSource(5))
	l := goodHeads()
	for range 5000 {
		l = append(l, someHead(r))
	}
	for _, h := range l {
		room := 578 - len(h.Name) - 1 - len(h.Value)
		for _, name := range []string{h.Name, strings.ToUpper(h.Name), resized(r, h.Name)} {
			ahead := blanked(r, min(room, 5))
			behind := blanked(r, room-len(ahead))
			line := name + ":" + ahead + h.Value + behind
			if got, err := heads.Read(line); got != h || err != api.OK {
				t.Errorf("Read(%q): %q, %d; want %q", line, got, err, h)
			}
		}
	}
}
