package token_test

import (
	"bytes"
	"crypto/hmac"
	"crypto/sha256"
	"encoding/binary"
	"math"
	"regexp"
	"strings"

	"gatepost/api"
	"gatepost/probe"
)

// labelForm is the words of a label, for the library's expressions; \z, as $ would let a line's end follow.
var labelForm = regexp.MustCompile(`\A[a-z0-9]([a-z0-9-]{0,18}[a-z0-9])?\z`)

var web = api.Name{Ns: "shop", Sa: "web"}

// example is the token of the chapter's examples, not signed.
func example() api.Token {
	return api.Token{Name: web, Uid: 7, Host: 2, Addr: 0x0a000007, Born: 5, Until: 205, Key: 1}
}

// with answers the example with something else in it.
func with(change func(t *api.Token)) api.Token {
	x := example()
	change(&x)
	return x
}

// goodCounts are numbers that workloads and keys may have, and times at which a token may end.
func goodCounts() []uint64 {
	return []uint64{1, 2, 9, 10, 127, 128, 200, 1<<14 - 1, 1 << 14, math.MaxUint32, 1 << 32, 1<<32 + 7, api.MaxCount - 1, api.MaxCount}
}

// badCounts are numbers that they may not have.
func badCounts() []uint64 {
	return []uint64{0, api.MaxCount + 1, api.MaxCount + 2, 1<<62 + 7, math.MaxInt64, 1 << 63, 1<<63 + 7, math.MaxUint64 - 1, math.MaxUint64}
}

// goodTokens are tokens that may be, not signed: the example with each field at its edges, and between.
func goodTokens() []api.Token {
	l := []api.Token{example()}
	add := func(change func(t *api.Token)) { l = append(l, with(change)) }
	for _, s := range []string{"a", "z", "0", "9", "a-b", "a--b", "web-1", strings.Repeat("a", 19), strings.Repeat("9", 20), "a" + strings.Repeat("-", 18) + "z"} {
		add(func(t *api.Token) { t.Name.Ns = s })
		add(func(t *api.Token) { t.Name.Sa = s })
		add(func(t *api.Token) { t.Name = api.Name{Ns: s, Sa: s} })
	}
	for _, x := range goodCounts() {
		add(func(t *api.Token) { t.Uid = x })
		add(func(t *api.Token) { t.Key = x })
		add(func(t *api.Token) { t.Born, t.Until = 0, x })
		add(func(t *api.Token) { t.Born, t.Until = x-1, x })
		add(func(t *api.Token) { t.Born, t.Until = x/2, x })
	}
	for host := 1; host <= 9; host++ {
		add(func(t *api.Token) { t.Host = host })
	}
	for _, x := range []uint32{0, 1, 0xff, 0x01020304, 0x7fffffff, 0x80000000, math.MaxUint32} {
		add(func(t *api.Token) { t.Addr = x })
	}
	add(func(t *api.Token) { t.Mac = [32]byte(probe.Bytes(1, 32)) })
	for i, x := range l {
		l = append(l, x)
		copy(l[len(l)-1].Mac[:], probe.Bytes(int64(i), 32))
	}
	return l
}

// badTokens are tokens that may not be, most of them for one reason alone.
func badTokens() []api.Token {
	var l []api.Token
	add := func(change func(t *api.Token)) { l = append(l, with(change)) }
	for _, s := range []string{"", "-", "-a", "a-", "Web", "a/b", "a.b", "a_b", "a b", " a", "a\n", "a\x00", "\xff", "\u00e9", strings.Repeat("a", 21), strings.Repeat("a", 64), strings.Repeat("a", 1<<16)} {
		add(func(t *api.Token) { t.Name.Ns = s })
		add(func(t *api.Token) { t.Name.Sa = s })
		add(func(t *api.Token) { t.Name = api.Name{Ns: s, Sa: s} })
	}
	for _, x := range badCounts() {
		add(func(t *api.Token) { t.Uid = x })
		add(func(t *api.Token) { t.Key = x })
		add(func(t *api.Token) { t.Until = x })
		add(func(t *api.Token) { t.Born, t.Until = x-1, x })
	}
	for _, x := range append(goodCounts(), 0, api.MaxCount+1, math.MaxUint64) {
		add(func(t *api.Token) { t.Born, t.Until = x, x })
		if x > 0 {
			add(func(t *api.Token) { t.Born, t.Until = x, x-1 })
			add(func(t *api.Token) { t.Born, t.Until = x, 0 })
		}
	}
	for _, x := range []int{0, -1, -2, -9, 10, 11, 256 + 2, math.MaxInt32, math.MinInt32, math.MaxInt, math.MinInt, math.MinInt + 2} {
		add(func(t *api.Token) { t.Host = x })
	}
	return append(l, api.Token{}, api.Token{Mac: [32]byte(probe.Bytes(1, 32))}, api.Token{Name: web}, api.Token{Born: math.MaxUint64, Until: math.MaxUint64, Host: math.MaxInt, Uid: math.MaxUint64, Key: math.MaxUint64, Addr: math.MaxUint32})
}

// mayBe tells by the chapter's words whether the token may be.
func mayBe(t api.Token) bool {
	labels := labelForm.MatchString(t.Name.Ns) && labelForm.MatchString(t.Name.Sa)
	numbers := t.Uid != 0 && t.Uid>>62 == 0 && t.Key != 0 && t.Key>>62 == 0 && t.Until>>62 == 0
	return labels && numbers && t.Host > 0 && t.Host < 10 && t.Until > t.Born
}

// librarySaid answers what is said of the token, by the library's numbers.
func librarySaid(t api.Token) []byte {
	b := []byte{1}
	for _, s := range []string{t.Name.Ns, t.Name.Sa} {
		b = append(binary.AppendUvarint(b, uint64(len(s))), s...)
	}
	b = binary.AppendUvarint(b, t.Uid)
	b = binary.AppendUvarint(b, uint64(t.Host))
	b = binary.LittleEndian.AppendUint32(b, t.Addr)
	for _, x := range []uint64{t.Born, t.Until, t.Key} {
		b = binary.AppendUvarint(b, x)
	}
	return b
}

// libraryMac answers the mac of b by the library.
func libraryMac(key, b []byte) []byte {
	h := hmac.New(sha256.New, key)
	h.Write(b)
	return h.Sum(nil)
}

// librarySigned answers the token, signed by the library, by the root's key of its Key.
func librarySigned(root string, t api.Token) api.Token {
	key := libraryMac([]byte(root), binary.BigEndian.AppendUint64([]byte("ca\x00"), t.Key))
	t.Mac = [32]byte(libraryMac(key, librarySaid(t)))
	return t
}

// goodRings are rings that may be.
func goodRings() []api.Ring {
	var l []api.Ring
	for _, root := range []string{"k", "\x00", "\xff\x00", strings.Repeat("ab", 20), string(probe.Bytes(3, 63)), string(probe.Bytes(4, 64))} {
		l = append(l, api.Ring{Root: []byte(root), Oldest: 1, Newest: 1}, api.Ring{Root: []byte(root), Oldest: 2, Newest: 5}, api.Ring{Root: []byte(root), Oldest: 1, Newest: api.MaxCount})
	}
	return append(l, api.Ring{Root: []byte("k"), Oldest: api.MaxCount, Newest: api.MaxCount}, api.Ring{Root: []byte("k"), Oldest: api.MaxCount - 1, Newest: api.MaxCount - 1})
}

// badRings are rings that may not be.
func badRings() []api.Ring {
	l := []api.Ring{{}, {Oldest: 1, Newest: 1}, {Root: []byte{}, Oldest: 1, Newest: 1}, {Root: make([]byte, 0, 64), Oldest: 1, Newest: 1}, {Root: []byte("k")}}
	for _, n := range []int{65, 66, 128, 255, 256, 257, 256 + 64, 1 << 16} {
		l = append(l, api.Ring{Root: bytes.Repeat([]byte("k"), n), Oldest: 1, Newest: 1})
	}
	for _, x := range [][2]uint64{
		{0, 0}, {0, 1}, {0, 5}, {0, api.MaxCount}, {1, 0}, {2, 1}, {5, 4}, {5, 1}, {api.MaxCount, 1}, {api.MaxCount, api.MaxCount - 1},
		{1, api.MaxCount + 1}, {api.MaxCount, api.MaxCount + 1}, {api.MaxCount + 1, api.MaxCount + 1}, {api.MaxCount + 1, api.MaxCount}, {1, 1 << 63}, {1 << 63, 1 << 63}, {1, math.MaxUint64}, {math.MaxUint64, math.MaxUint64}, {math.MaxUint64, 0}, {math.MaxUint64, 1}, {0, math.MaxUint64},
	} {
		l = append(l, api.Ring{Root: []byte("k"), Oldest: x[0], Newest: x[1]})
	}
	return l
}
