package request_test

import (
	"fmt"
	"math"
	"math/rand"
	"strings"
	"testing"

	"gatepost/api"
	"gatepost/probe"
	"gatepost/request"
)

func TestP10_1New(t *testing.T) {
	p := request.New()
	if text(p) != text(api.Parsing{}) || !request.Idle(p) {
		t.Errorf("%s, idle %v", text(p), request.Idle(p))
	}
	for _, b := range [][]byte{nil, {}} {
		if q, l := request.Feed(p, b); text(q) != text(p) || len(l) != 0 || !request.Idle(q) {
			t.Errorf("behind no bytes: %s, %q", text(q), l)
		}
	}
	if l, err := request.Raws(nil); len(l) != 0 || err != api.OK {
		t.Errorf("Raws of no bytes: %q, %d", l, err)
	}
}

// What a reading is behind each piece of a message.
func TestP10_1EachPhase(t *testing.T) {
	const first = "POST / HTTP/1.1"
	host, chunks, three := row("host", "a"), row("host", "a", "transfer-encoding", "chunked"), row("host", "a", "content-length", "3")
	steps := []struct {
		piece string
		want  api.Parsing
	}{
		{"", api.Parsing{}},
		{"PO", api.Parsing{Line: []byte("PO")}},
		{"ST / HTTP/1.1", api.Parsing{Line: []byte(first)}},
		{"\r", api.Parsing{Line: []byte(first + "\r")}},
		{"\n", api.Parsing{Phase: 1, Raw: api.Raw{Start: first}}},
		{"HO", api.Parsing{Phase: 1, Line: []byte("HO"), Raw: api.Raw{Start: first}}},
		{"ST: a \r\n", api.Parsing{Phase: 1, Raw: api.Raw{Start: first, Heads: host}}},
		{"Transfer-Encoding: chunked\r\n", api.Parsing{Phase: 1, Raw: api.Raw{Start: first, Heads: chunks}}},
		{"\r", api.Parsing{Phase: 1, Line: []byte("\r"), Raw: api.Raw{Start: first, Heads: chunks}}},
		{"\n", api.Parsing{Phase: 3, Raw: api.Raw{Start: first, Heads: chunks}}},
		{"3", api.Parsing{Phase: 3, Line: []byte("3"), Raw: api.Raw{Start: first, Heads: chunks}}},
		{"\r\n", api.Parsing{Phase: 4, Left: 3, Raw: api.Raw{Start: first, Heads: chunks}}},
		{"\r\n", api.Parsing{Phase: 4, Left: 1, Raw: api.Raw{Start: first, Heads: chunks, Body: []byte("\r\n")}}},
		{"c", api.Parsing{Phase: 5, Raw: api.Raw{Start: first, Heads: chunks, Body: []byte("\r\nc")}}},
		{"\r", api.Parsing{Phase: 5, Line: []byte("\r"), Raw: api.Raw{Start: first, Heads: chunks, Body: []byte("\r\nc")}}},
		{"\n", api.Parsing{Phase: 3, Raw: api.Raw{Start: first, Heads: chunks, Body: []byte("\r\nc")}}},
		{"1\r\nd\r\n0\r\n", api.Parsing{Phase: 6, Raw: api.Raw{Start: first, Heads: chunks, Body: []byte("\r\ncd")}}},
		{"\r", api.Parsing{Phase: 6, Line: []byte("\r"), Raw: api.Raw{Start: first, Heads: chunks, Body: []byte("\r\ncd")}}},
		{"\n", api.Parsing{}},
		{"POST / HTTP/1.1\r\nHost: a\r\nContent-Length: 3\r\n\r\n", api.Parsing{Phase: 2, Left: 3, Raw: api.Raw{Start: first, Heads: three}}},
		{"\r\n", api.Parsing{Phase: 2, Left: 1, Raw: api.Raw{Start: first, Heads: three, Body: []byte("\r\n")}}},
		{"\x00", api.Parsing{}},
		{"POST / HTTP/1.1\r\nHost: a\r\n", api.Parsing{Phase: 1, Raw: api.Raw{Start: first, Heads: host}}},
		{"\r\n", api.Parsing{}},
	}
	want := []api.Raw{{Start: first, Heads: chunks, Body: []byte("\r\ncd")}, {Start: first, Heads: three, Body: []byte("\r\n\x00")}, {Start: first, Heads: host}}
	p := request.New()
	var whole []api.Raw
	for i, x := range steps {
		var l []api.Raw
		p, l = request.Feed(p, []byte(x.piece))
		whole = append(whole, l...)
		if text(p) != text(x.want) || request.Idle(p) != (text(x.want) == text(api.Parsing{})) {
			t.Errorf("step %d, %q: %s, idle %v", i, x.piece, text(p), request.Idle(p))
		}
		if wanted := map[bool]int{true: 1}[len(x.piece) > 0 && text(x.want) == text(api.Parsing{})]; len(l) != wanted {
			t.Errorf("step %d, %q: %d messages are whole", i, x.piece, len(l))
		}
	}
	if text(whole) != text(want) {
		t.Errorf("%q", whole)
	}
}

// A reading is as New behind a message, and idle there alone.
func TestP10_1Idle(t *testing.T) {
	for _, s := range goodMessages() {
		for i := range len(s) + 1 {
			p, l := fed(request.New(), s[:i])
			atEdge := i == 0 || i == len(s)
			if request.Idle(p) != atEdge || (text(p) == text(request.New())) != atEdge || p.Err != api.OK || (len(l) == 1) != (i == len(s)) {
				t.Errorf("%d bytes of %.200q: %.200s, %d messages", i, s, text(p), len(l))
			}
		}
	}
	for _, p := range []api.Parsing{{Phase: 1}, {Phase: 2}, {Phase: 6}, {Phase: -1}, {Phase: 7}, {Line: []byte("a")}, {Line: []byte("\r")}, {Raw: api.Raw{Start: "a"}}, {Raw: api.Raw{Heads: row("a", "b")}}, {Raw: api.Raw{Body: []byte("a")}}, {Left: 1}, {Err: api.ErrForm}, {Err: api.ErrLong}, {Err: 77}, {Err: -1}} {
		if request.Idle(p) {
			t.Errorf("%s is idle", text(p))
		}
	}
	if !request.Idle(api.Parsing{Line: []byte{}, Raw: api.Raw{Heads: []api.Head{}, Body: []byte{}}}) {
		t.Error("with empty lists it is not idle")
	}
}

// checkFault tells if the reading of the lines has no fault, or another one, or not by its last byte, or goes on behind it.
func checkFault(t *testing.T, want api.Errno, s string) {
	t.Helper()
	before, l := fed(request.New(), s[:len(s)-1])
	if before.Err != api.OK || len(l) != 0 {
		t.Errorf("%.700q: ahead of its last byte %d, %d messages", s, before.Err, len(l))
	}
	p, l := fed(before, s[len(s)-1:])
	if text(p) != text(api.Parsing{Err: want}) || len(l) != 0 || request.Idle(p) {
		t.Errorf("%.700q: %.700s, %d messages; want %d", s, text(p), len(l), want)
	}
	for _, more := range []string{"", "\n", "\r\n", "a", "\r\n\r\n", plainGet, "\r\n" + plainGet} {
		q, l := fed(p, more)
		if text(q) != text(p) || len(l) != 0 || request.Idle(q) {
			t.Errorf("%.700q, and behind it %q: %s, %d messages", s, more, text(q), len(l))
		}
		checkRead(t, s+more)
		checkRead(t, plainGet+s+more)
	}
	for _, ahead := range []string{plainGet, chunkedTop + "3\r\nabc\r\n0\r\n\r\n"} {
		if p, l := fed(request.New(), ahead+ahead+s); p.Err != want || len(l) != 2 {
			t.Errorf("%.700q behind two messages: %d, %d messages", s, p.Err, len(l))
		}
	}
}

const plainGet = "GET / HTTP/1.1\r\nHost: a\r\n\r\n"

// tops are beginnings behind which a line is read, one of each phase that has lines.
func tops() []string {
	return []string{"", "GET / HTTP/1.1\r\n", "GET / HTTP/1.1\r\nHost: a\r\n", chunkedTop, chunkedTop + "3\r\nabc", chunkedTop + "3\r\nabc\r\n", chunkedTop + "0\r\n", plainGet, plainGet + "GET / HTTP/1.1\r\n"}
}

func TestP10_1LineFaults(t *testing.T) {
	for _, top := range tops()[:7] {
		for _, line := range []string{"", "a", "\x00", "GET / HTTP/1.1", "a: b", "3", "0", strings.Repeat("a", 577), strings.Repeat("a", 578)} {
			checkFault(t, api.ErrForm, top+line+"\n")
			for _, x := range []string{"\r", "a", " ", "\x00", "\xff", "\t"} {
				checkFault(t, api.ErrForm, top+line+"\r"+x)
			}
			if p, _ := fed(request.New(), top+line+"\r"); p.Err != api.OK {
				t.Errorf("%.700q: %d", top+line+"\r", p.Err)
			}
		}
		checkFault(t, api.ErrLong, top+strings.Repeat("a", 579))
		checkFault(t, api.ErrLong, top+strings.Repeat("\x00", 579))
		checkFault(t, api.ErrLong, top+"a: "+strings.Repeat("b", 576))
		checkFault(t, api.ErrLong, top+strings.Repeat(" ", 579))
		if p, _ := fed(request.New(), top+strings.Repeat("a", 578)); p.Err != api.OK || len(p.Line) != 578 {
			t.Errorf("578 bytes of a line behind %q: %d", top, p.Err)
		}
	}
}

func TestP10_1LongestLines(t *testing.T) {
	name, value := letters64, value512
	s := wire(start578, name+": "+value, name+":"+value, name+":"+value+" ", "", "")
	p, l := fed(request.New(), s)
	if p.Err != api.OK || len(l) != 1 || l[0].Start != start578 || text(l[0].Heads) != text(row(name, value, name, value, name, value)) {
		t.Errorf("%d, %q", p.Err, l)
	}
	checkRead(t, s)
	for n := 570; n < 590; n++ {
		for _, top := range tops() {
			checkRead(t, top+strings.Repeat("a", n)+"\r\n\r\n")
			checkRead(t, top+"a:"+strings.Repeat(" ", n-2)+"\r\n\r\n")
		}
	}
}

func TestP10_1HeaderFaults(t *testing.T) {
	const top = "GET / HTTP/1.1\r\n"
	for _, line := range []string{"Host", "Host : a", " Host: a", "\tHost: a", ": a", ":", "a b: c", "a:\x00", "a: b\x7f", "a: \xff", "\u212a: a", "GET / HTTP/1.1", " ", letters64 + "a: b", "a: " + value512 + "b", "a:" + strings.Repeat("b", 513)} {
		checkFault(t, api.ErrForm, top+line+"\r\n")
		checkFault(t, api.ErrForm, top+"Host: a\r\n"+line+"\r\n")
		checkFault(t, api.ErrForm, top+strings.Repeat("a: b\r\n", 24)+line+"\r\n")
	}
	checkFault(t, api.ErrFull, top+strings.Repeat("a: b\r\n", 25))
	checkFault(t, api.ErrFull, top+strings.Repeat("a:\r\n", 24)+"Host: a\r\n")
	for n := range 30 {
		s := top + strings.Repeat("a: b\r\n", n) + "\r\n"
		if p, l := fed(request.New(), s); (len(l) == 1 && len(l[0].Heads) == n && p.Err == api.OK) != (n <= 24) || n > 24 && p.Err != api.ErrFull {
			t.Errorf("%d headers: %d, %d messages", n, p.Err, len(l))
		}
		checkRead(t, s)
	}
}

func TestP10_1FramingFaults(t *testing.T) {
	const top = "POST / HTTP/1.1\r\nHost: a\r\n"
	for _, l := range [][]string{{"Content-Length: 3", "Transfer-Encoding: chunked"}, {"Content-Length: 3", "content-length: 3"}, {"Content-Length: 0", "Content-Length: 0"}, {"Transfer-Encoding: chunked", "Transfer-Encoding: chunked"}, {"Transfer-Encoding: gzip"}, {"Transfer-Encoding: gzip, chunked"}, {"Transfer-Encoding:"}, {"Content-Length:"}, {"Content-Length: 03"}, {"Content-Length: +3"}, {"Content-Length: 3, 3"}, {"Content-Length: 0x3"}, {"Content-Length: 1025", "Content-Length: 1025"}, {"Content-Length: -1"}} {
		checkFault(t, api.ErrForm, top+wire(append(l, "", "")...))
	}
	for _, n := range []string{"1025", "2000", "99999", "4294967297", "18446744073709551617", "100000000000000000000000"} {
		checkFault(t, api.ErrLong, top+"Content-Length: "+n+"\r\n\r\n")
	}
}

func TestP10_1ChunkFaults(t *testing.T) {
	for _, top := range []string{chunkedTop, chunkedTop + "1\r\na\r\n", chunkedTop + "3ff\r\n" + bytes1024[:1023] + "\r\n"} {
		for _, line := range []string{"", " ", "00", "01", "03", "0003", "00000", "000a", "-1", "+1", "1 ", " 1", "1;", "1;a=b", "0;a=b", "0 ", " 0", "0x1", "0X1", "x", "g", "1g", "G", "1_0", "1.0", "10000", "fffff", "11111", "ffffffff", "100000000", "10000000000000001", "1\x00", "\x001", "\u0661", "\uff11", "1\xff", "1,1", "'1'", strings.Repeat("1", 578), "1\t", "h", "1h", "0h", "/", ":", "@", "`"} {
			checkFault(t, api.ErrForm, top+line+"\r\n")
		}
		for _, line := range []string{"401", "402", "500", "7ff", "fff", "FFF", "1000", "ffff", "FFFF", "fFfF", "8000", "7fff"} {
			checkFault(t, api.ErrLong, top+line+"\r\n")
		}
	}
	full := chunkedTop + "400\r\n" + bytes1024 + "\r\n"
	inTwo := chunkedTop + "1\r\na\r\n3FF\r\n" + bytes1024[1:] + "\r\n"
	for _, line := range []string{"1", "2", "a", "400", "ffff"} {
		checkFault(t, api.ErrLong, full+line+"\r\n")
		checkFault(t, api.ErrLong, inTwo+line+"\r\n")
	}
	for _, s := range []string{full, inTwo} {
		if p, l := fed(request.New(), s+"0\r\n\r\n"); !request.Idle(p) || len(l) != 1 || len(l[0].Body) != 1024 {
			t.Errorf("a body of 1024 bytes: %d, %d messages", p.Err, len(l))
		}
	}
}

func TestP10_1ChunkEnds(t *testing.T) {
	for _, top := range []string{chunkedTop + "3\r\nabc", chunkedTop + "3\r\n\r\n\r", chunkedTop + "a\r\n0123456789", chunkedTop + "0\r\n", chunkedTop + "1\r\na\r\n0\r\n"} {
		for _, line := range []string{"d", " ", "\t", "0", "3", "a: b", "x", "\x00", "Trailer: a", "GET / HTTP/1.1", strings.Repeat("a", 578)} {
			checkFault(t, api.ErrForm, top+line+"\r\n")
		}
	}
}

// Each size of a chunk, in letters of both sizes, alone and behind another one.
func TestP10_1EachSize(t *testing.T) {
	for n := 1; n <= 1100; n++ {
		body := strings.Repeat("\r\n0\r\n\r\n", 160)[:n]
		for _, s := range []string{fmt.Sprintf("%x\r\n%s\r\n", n, body), fmt.Sprintf("%X\r\n%s\r\n", n, body), fmt.Sprintf("3\r\nabc\r\n%x\r\n%s\r\n", n, body)} {
			whole := len(s)
			if count, fault := checkRead(t, chunkedTop+s+"0\r\n\r\n"); (count == 1) != (fault == api.OK) || whole < 1020 && count != 1 {
				t.Errorf("a chunk of %d bytes: %d messages, %d", n, count, fault)
			}
		}
		s := fmt.Sprintf("POST / HTTP/1.1\r\nHost: a\r\nContent-Length: %d\r\n\r\n%s", n, body)
		if count, fault := checkRead(t, s); (count == 1) != (n <= 1024) || n > 1024 && fault != api.ErrLong {
			t.Errorf("a body of %d bytes: %d messages, %d", n, count, fault)
		}
	}
	for n := range 1 << 16 {
		p, _ := fed(request.New(), chunkedTop+fmt.Sprintf("%x\r\n", n))
		switch {
		case n == 0 && p.Phase == 6 && p.Left == 0:
		case n > 0 && n <= 1024 && p.Phase == 4 && p.Left == n:
		case n > 1024 && p.Err == api.ErrLong:
		default:
			t.Errorf("a chunk of %d bytes: %.200s", n, text(p))
		}
	}
}

// A first line is any line at all: what may not be asked is told by Of.
func TestP10_1AnyFirstLine(t *testing.T) {
	for x := range 256 {
		if x == '\r' || x == '\n' {
			continue
		}
		for _, first := range []string{string([]byte{byte(x)}), "a" + string([]byte{byte(x)}) + "b"} {
			if p, l := fed(request.New(), first+"\r\n\r\n"); !request.Idle(p) || len(l) != 1 || text(l[0]) != text(api.Raw{Start: first}) {
				t.Errorf("%q: %s, %q", first, text(p), l)
			}
		}
	}
	if l, err := request.Raws([]byte("\r\n\r\n")); text(l) != text([]api.Raw{{}}) || err != api.OK {
		t.Errorf("an empty first line: %q, %d", l, err)
	}
}

// All texts of few parts, in each phase.
func TestP10_1Small(t *testing.T) {
	fine, bad := 0, 0
	for _, top := range tops() {
		for _, s := range probe.Texts(5, "\r\n", "\r", "\n", "a", "0", "1", "a: b") {
			if _, fault := checkRead(t, top+s); fault == api.OK {
				fine++
			} else {
				bad++
			}
		}
	}
	if fine < 500 || bad < 10000 {
		t.Errorf("%d are fine, %d are not: not both often", fine, bad)
	}
}

func TestP10_2Raws(t *testing.T) {
	for _, x := range []struct {
		s     string
		count int
		fault api.Errno
	}{
		{"", 0, api.OK}, {plainGet, 1, api.OK}, {plainGet + plainGet, 2, api.OK}, {strings.Repeat(plainGet, 1000), 1000, api.OK},
		{chunkedTop + "0\r\n\r\n" + plainGet, 2, api.OK}, {"\r\n\r\n", 1, api.OK}, {"HTTP/1.1 200 OK\r\n\r\n", 1, api.OK},
		{"G", 0, api.ErrForm}, {"\r", 0, api.ErrForm}, {plainGet[:len(plainGet)-1], 0, api.ErrForm}, {plainGet + "G", 0, api.ErrForm}, {plainGet + "\r\n", 0, api.ErrForm}, {plainGet + "\n", 0, api.ErrForm},
		{strings.Repeat("a", 579), 0, api.ErrLong}, {strings.Repeat("a", 578), 0, api.ErrForm}, {plainGet + strings.Repeat("a", 579), 0, api.ErrLong}, {plainGet + "a\r\n" + strings.Repeat("a: b\r\n", 25), 0, api.ErrFull},
		{chunkedTop + "401\r\n", 0, api.ErrLong}, {plainGet + chunkedTop + "401\r\n" + plainGet, 0, api.ErrLong}, {chunkedTop + "400\r\n", 0, api.ErrForm}, {chunkedTop, 0, api.ErrForm}, {chunkedTop + "0\r\n", 0, api.ErrForm},
	} {
		if count, fault := checkRead(t, x.s); count != x.count || fault != x.fault {
			t.Errorf("%.200q: %d messages, %d", x.s, count, fault)
		}
		if l, err := request.Raws([]byte(x.s)); len(l) != x.count || err != x.fault {
			t.Errorf("Raws(%.200q): %d messages, %d", x.s, len(l), err)
		}
	}
}

// Each beginning of messages is ErrForm, but where one is whole.
func TestP10_2Beginnings(t *testing.T) {
	for _, s := range goodMessages() {
		for i := 1; i < len(s); i++ {
			if l, err := request.Raws([]byte(s[:i])); len(l) != 0 || err != api.ErrForm {
				t.Errorf("%d bytes of %.200q: %d messages, %d", i, s, len(l), err)
			}
			if l, err := request.Raws([]byte(plainGet + s[:i])); len(l) != 0 || err != api.ErrForm {
				t.Errorf("%d bytes of %.200q behind one: %d messages, %d", i, s, len(l), err)
			}
		}
	}
}

func TestP10_2Near(t *testing.T) {
	fine := 0
	for _, s := range []string{plainGet, "PUT /a?b HTTP/1.1\r\nContent-Length:3\r\nhost:b\r\n\r\n\r\n\x00", "P / HTTP/1.1\r\nHost:a\r\nTransfer-Encoding:chunked\r\n\r\n3\r\nabc\r\n0\r\n\r\n"} {
		for near := range probe.Near(s) {
			if count, _ := checkRead(t, near); count > 0 {
				fine++
			}
		}
	}
	if fine < 1000 {
		t.Errorf("%d are fine: too few", fine)
	}
}

func TestP10_2Many(t *testing.T) {
	r := rand.New(rand.NewSource(1))
	fine, bad := 0, 0
	for range 4000 {
		s := ""
		for range 1 + r.Intn(3) {
			s += someSpelling(r, someRequest(r))
		}
		checkRead(t, s)
		if _, fault := checkRead(t, edited(r, s)); fault == api.OK {
			fine++
		} else {
			bad++
		}
	}
	if fine < 500 || bad < 500 {
		t.Errorf("%d are fine, %d are not: not both often", fine, bad)
	}
	for n := range 2000 {
		checkRead(t, string(probe.Bytes(int64(n), n%700)))
		checkRead(t, chunkedTop+string(probe.Bytes(int64(n), n%700)))
	}
}

// strange are readings that no bytes lead to, and some that they do.
func strange() []api.Parsing {
	var l []api.Parsing
	lines := [][]byte{nil, []byte("\r"), []byte("a"), []byte("a\r\n"), []byte("\r\r"), []byte(strings.Repeat("a", 700)), []byte(strings.Repeat("a", 700) + "\r")}
	raws := []api.Raw{{}, {Start: "\r\n", Heads: row("A ", "\n", "content-length", "x"), Body: []byte(strings.Repeat("a", 3000))}, {Heads: append(row("transfer-encoding", "chunked"), manyHeads(40)...)}}
	for _, phase := range []int{math.MinInt, -1, 0, 1, 2, 3, 4, 5, 6, 7, 8, 256, math.MaxInt} {
		for _, left := range []int{math.MinInt, -1, 0, 1, 3, math.MaxInt} {
			for _, line := range lines {
				for _, raw := range raws {
					l = append(l, api.Parsing{Phase: phase, Left: left, Line: line, Raw: raw})
				}
			}
		}
	}
	for _, err := range []api.Errno{api.ErrArg, api.ErrForm, api.ErrFull, api.ErrLong, 77, -1, math.MinInt} {
		l = append(l, api.Parsing{Err: err}, api.Parsing{Err: err, Phase: 4, Left: 2, Line: []byte("a"), Raw: raws[1]})
	}
	return l
}

// manyHeads answers so many headers.
func manyHeads(n int) []api.Head {
	var l []api.Head
	for i := range n {
		l = append(l, api.Head{Name: "a", Value: fmt.Sprint(i)})
	}
	return l
}

// Whatever reading is handed in: it ends, stays as it was without bytes, takes nothing behind a fault, or where none can be, and goes on alike however the bytes are cut.
func TestP10_1Strange(t *testing.T) {
	for _, p := range strange() {
		before := text(p)
		request.Idle(p)
		if q, l := fed(p, ""); text(q) != before || len(l) != 0 {
			t.Errorf("%.300s: %.300s behind no bytes", before, text(q))
		}
		for _, s := range []string{"\n", "a", "\r\n\r\n\r\n", "1\r\na\r\n0\r\n\r\n" + plainGet} {
			q, l := fed(p, s)
			inBody := p.Phase == 2 || p.Phase == 4
			if p.Err == api.OK && (p.Phase < 0 || p.Phase > 6 || inBody && p.Left <= 0) && (text(q) != text(api.Parsing{Err: api.ErrForm}) || len(l) != 0) {
				t.Errorf("%.300s, at no place: %.300s behind %q", before, text(q), s)
			}
			if p.Err != api.OK && (text(q) != before || len(l) != 0) {
				t.Errorf("%.300s: %.300s behind %q", before, text(q), s)
			}
			if r, m := fed(p, strings.Split(s, "")...); text(r) != text(q) || text(m) != text(l) {
				t.Errorf("%.300s: %.300s, %.300q byte by byte; %.300s, %.300q", before, text(r), m, text(q), l)
			}
		}
		if text(p) != before {
			t.Errorf("%.300s is changed", before)
		}
	}
}
