package token_test

import (
	"bytes"
	"encoding/binary"
	"encoding/hex"
	"fmt"
	"math/rand"
	"strings"
	"testing"

	"gatepost/api"
	"gatepost/probe"
	"gatepost/token"
)

// libraryBytes answers the token's bytes, by the library's numbers.
func libraryBytes(t api.Token) []byte { return append(librarySaid(t), t.Mac[:]...) }

// libraryRead answers the token whose bytes these are, by the library's numbers.
func libraryRead(b []byte) (api.Token, bool) {
	whole := b
	take := func(n uint64) []byte {
		n = min(n, uint64(len(b)))
		taken := b[:n]
		b = b[n:]
		return taken
	}
	number := func() uint64 {
		x, n := binary.Uvarint(b)
		take(uint64(max(n, 0)))
		return x
	}
	var t api.Token
	take(1)
	t.Name.Ns = string(take(number()))
	t.Name.Sa = string(take(number()))
	t.Uid = number()
	host := number()
	t.Host = int(min(host, 10))
	t.Addr = binary.LittleEndian.Uint32(append(bytes.Clone(take(4)), 0, 0, 0, 0))
	t.Born, t.Until, t.Key = number(), number(), number()
	copy(t.Mac[:], take(32))
	if !mayBe(t) || !bytes.Equal(libraryBytes(t), whole) {
		return api.Token{}, false
	}
	return t, true
}

// checkRead tells if b is read otherwise than by the library, and answers whether it is a token's.
func checkRead(t *testing.T, b []byte) bool {
	t.Helper()
	want, ok := libraryRead(b)
	wantErr := api.ErrForm
	if ok {
		wantErr = api.OK
	}
	if got, err := token.Read(b); got != want || err != wantErr {
		t.Errorf("%.400x: %+v, %d; want %+v, %d", b, got, err, want, wantErr)
	}
	return ok
}

func TestP6_5Example(t *testing.T) {
	const want = "01" + "0473686f70" + "03776562" + "07" + "02" + "0700000a" + "05" + "cd01" + "01" + "13a5d772b95e0e6846b114e13f4aaa2eab80defd7e99f2fe61e9fc678084cbb8"
	x, _ := token.Issue(api.Ring{Root: []byte("k"), Oldest: 1, Newest: 1}, web, 7, 2, 0x0a000007, 5)
	b, err := token.Bytes(x)
	if got := hex.EncodeToString(b); got != want || err != api.OK {
		t.Errorf("%s, %d", got, err)
	}
	if y, err := token.Read(b); y != x || err != api.OK {
		t.Errorf("%+v, %d", y, err)
	}
}

// Whether it is signed is not asked.
func TestP6_5GoodTokens(t *testing.T) {
	for _, x := range goodTokens() {
		want := libraryBytes(x)
		if b, err := token.Bytes(x); !bytes.Equal(b, want) || err != api.OK {
			t.Errorf("%+v: %x, %d; want %x", x, b, err, want)
		}
		if y, err := token.Read(want); y != x || err != api.OK {
			t.Errorf("%+v: read as %+v, %d", x, y, err)
		}
	}
}

func TestP6_5BadTokens(t *testing.T) {
	for _, x := range badTokens() {
		if b, err := token.Bytes(x); len(b) != 0 || err != api.ErrArg {
			t.Errorf("%.300q: %x, %d", fmt.Sprintf("%+v", x), b, err)
		}
		for _, x := range []api.Token{x, librarySigned("k", x)} {
			if checkRead(t, libraryBytes(x)) {
				t.Errorf("the library takes %.300q", fmt.Sprintf("%+v", x))
			}
		}
	}
}

// Fields that are there, but not in the one form that they have.
func TestP6_5ReadWrong(t *testing.T) {
	const ahead, mid, behind = "\x01\x04shop\x03web\x07", "\x07\x00\x00\x0a", "\x05\xcd\x01\x01"
	sum := string(probe.Bytes(7, 32))
	if !checkRead(t, []byte(ahead+"\x02"+mid+behind+sum)) {
		t.Error("the library does not take the bytes that are right")
	}
	for _, b := range []string{
		"", "\x00", "\x01", "\x02", sum, strings.Repeat("\x00", 100), strings.Repeat("\x01", 100), strings.Repeat("\x80", 100), strings.Repeat("\xff", 100), strings.Repeat("\xff", 1<<20),
		"\x00" + ahead[1:] + "\x02" + mid + behind + sum,
		"\x02" + ahead[1:] + "\x02" + mid + behind + sum,
		"\x81" + ahead[1:] + "\x02" + mid + behind + sum,
		"\x81\x00" + ahead[1:] + "\x02" + mid + behind + sum,
		ahead[1:] + "\x02" + mid + behind + sum,
		ahead + "\x82\x00" + mid + behind + sum,
		ahead + "\x82\x02" + mid + behind + sum,                                 // host 258
		ahead + "\x82\x80\x80\x80\x10" + mid + behind + sum,                     // host 2 and 2^32
		ahead + "\x82\x80\x80\x80\x80\x80\x80\x80\x80\x01" + mid + behind + sum, // host 2 and 2^63
		ahead + "\x82\x80\x80\x80\x80\x80\x80\x80\x80\x02" + mid + behind + sum, // host 2 and 2^64
		ahead + "\x82\x80\x80\x80\x80\x80\x80\x80\x80\x80\x01" + mid + behind + sum,
		ahead + "\x00" + mid + behind + sum,
		ahead + "\x0a" + mid + behind + sum,
		ahead + "\x02" + mid + "\x85\x00\xcd\x01\x01" + sum,
		ahead + "\x02" + mid + "\x05\xcd\x81\x00\x01" + sum,
		ahead + "\x02" + mid + "\x05\x05\x01" + sum,
		ahead + "\x02" + mid + "\xcd\x01\x05\x01" + sum,
		ahead + "\x02" + mid + "\x05\xcd\x01\x81\x00" + sum,
		ahead + "\x02" + mid + "\x05\xcd\x01\x00" + sum,
		ahead + "\x02" + mid + behind,
		ahead + "\x02" + mid + behind + sum[1:],
		ahead + "\x02" + mid + behind + sum + "\x00",
		ahead + "\x02" + mid[1:] + behind + sum,
		"\x01\x84\x00shop\x03web\x07\x02" + mid + behind + sum,
		"\x01\x03shop\x03web\x07\x02" + mid + behind + sum,
		"\x01\x05shop\x03web\x07\x02" + mid + behind + sum,
		"\x01\x04Shop\x03web\x07\x02" + mid + behind + sum,
		"\x01\x04shop\x03we-\x07\x02" + mid + behind + sum,
		"\x01\x00\x03web\x07\x02" + mid + behind + sum,
		"\x01\x04shop\x00\x07\x02" + mid + behind + sum,
		"\x01\x15" + strings.Repeat("a", 21) + "\x03web\x07\x02" + mid + behind + sum,
		"\x01\x04shop\x15" + strings.Repeat("a", 21) + "\x07\x02" + mid + behind + sum,
		"\x01\xff\xff\xff\xff\xff\xff\xff\xff\xff\x01shop\x03web\x07\x02" + mid + behind + sum,
		"\x01\x04shop\x03web\x00\x02" + mid + behind + sum,
		"\x01\x04shop\x03web\x87\x00\x02" + mid + behind + sum,
		"\x01\x04shop\x03web\x80\x80\x80\x80\x80\x80\x80\x80\x40\x02" + mid + behind + sum, // uid 2^62
	} {
		if checkRead(t, []byte(b)) {
			t.Errorf("the library takes %.400x", b)
		}
	}
}

// nearTokens are tokens with labels, and numbers, of one byte and of the most.
func nearTokens() []api.Token {
	return []api.Token{
		librarySigned("k", example()),
		librarySigned("k", api.Token{Name: api.Name{Ns: "a", Sa: "0"}, Uid: 1, Host: 9, Born: 0, Until: 1, Key: 1}),
		librarySigned("k", api.Token{Name: api.Name{Ns: strings.Repeat("n", 20), Sa: strings.Repeat("9", 20)}, Uid: api.MaxCount, Host: 1, Addr: 0xffffffff, Born: api.MaxCount - 1, Until: api.MaxCount, Key: api.MaxCount}),
	}
}

// All bytes that are a byte away from some tokens'.
func TestP6_5ReadNear(t *testing.T) {
	for _, x := range nearTokens() {
		fine := 0
		for s := range probe.Near(string(libraryBytes(x))) {
			if checkRead(t, []byte(s)) {
				fine++
			}
		}
		if fine < 32*256 {
			t.Errorf("%+v: %d near it are tokens", x, fine)
		}
	}
}

func TestP6_5ReadEdited(t *testing.T) {
	r := rand.New(rand.NewSource(3))
	good := goodTokens()
	fine := 0
	for range 50000 {
		s := string(libraryBytes(good[r.Intn(len(good))]))
		if checkRead(t, []byte(probe.Edited(s, "\x00\x01\x02\x09\x0a\x7f\x80\x81\xffaz09-A/", r.Intn))) {
			fine++
		}
	}
	if fine < 10000 || fine > 40000 {
		t.Errorf("%d of 50000 are tokens: not both often", fine)
	}
}

func TestP6_6BytesAreNew(t *testing.T) {
	x := librarySigned("k", example())
	first, _ := token.Bytes(x)
	second, _ := token.Bytes(x)
	_ = append(first, "more"...)
	probe.Scrub(first)
	if third, _ := token.Bytes(x); !bytes.Equal(second, libraryBytes(x)) || !bytes.Equal(third, second) {
		t.Errorf("behind a change of what was answered: %x, %x", second, third)
	}
}

func TestP6_6ReadKeepsNothing(t *testing.T) {
	for _, want := range nearTokens() {
		b, stays := probe.Guarded(libraryBytes(want))
		x, err := token.Read(b)
		_, wrong := token.Read(b[:len(b)-1])
		if x != want || err != api.OK || wrong != api.ErrForm || !stays() {
			t.Errorf("%+v, %d, %d: or the bytes are changed", x, err, wrong)
		}
		probe.Scrub(b)
		if x != want {
			t.Errorf("behind a change of the bytes: %+v", x)
		}
	}
}

// No beginning of a token's bytes is read, and nothing with more behind it.
func TestP6_9ThereAndBack(t *testing.T) {
	for _, x := range goodTokens() {
		b, err := token.Bytes(x)
		if y, e := token.Read(b); y != x || err != api.OK || e != api.OK {
			t.Errorf("%+v: %d, read as %+v, %d", x, err, y, e)
		}
		for i := range b {
			if y, err := token.Read(b[:i]); y != (api.Token{}) || err != api.ErrForm {
				t.Errorf("%+v: %d bytes of it are read, %d", x, i, err)
			}
		}
		for _, more := range [][]byte{{0}, {1}, {0x80}, {0xff}, b[:1], b[len(b)-32:], b, make([]byte, 1000)} {
			if y, err := token.Read(append(bytes.Clone(b), more...)); y != (api.Token{}) || err != api.ErrForm {
				t.Errorf("%+v: with %x behind it it is read, %d", x, more, err)
			}
		}
	}
}

// Whatever is read may be, and has the bytes that were read.
func TestP6_9WhatIsRead(t *testing.T) {
	r := rand.New(rand.NewSource(4))
	read := 0
	for range 30000 {
		x := nearTokens()[r.Intn(3)]
		s := probe.Edited(string(libraryBytes(x)), "\x00\x01\x02\x7f\x80az-", r.Intn)
		y, err := token.Read([]byte(s))
		if err != api.OK {
			continue
		}
		read++
		if b, err := token.Bytes(y); string(b) != s || err != api.OK || !token.May(y) {
			t.Errorf("%x: read as %+v, which has the bytes %x, %d", s, y, b, err)
		}
	}
	if read < 5000 {
		t.Errorf("%d were read: too few", read)
	}
}
