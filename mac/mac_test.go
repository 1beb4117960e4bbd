package mac_test

import (
	"bytes"
	"crypto/hmac"
	"crypto/sha256"
	"encoding/hex"
	"math/rand"
	"slices"
	"strings"
	"testing"
	"time"

	"gatepost/mac"
	"gatepost/probe"
)

// The lengths of keys at the edges of a block, and beyond them.
var keyLengths = []int{0, 1, 20, 31, 32, 33, 55, 56, 62, 63, 64, 65, 66, 127, 128, 129, 1000, 100000}

// libraryMac is the library's own mac of the parts.
func libraryMac(key []byte, parts ...[]byte) (sum [32]byte) {
	h := hmac.New(sha256.New, key)
	for _, p := range parts {
		h.Write(p)
	}
	copy(sum[:], h.Sum(nil))
	return sum
}

// RFC 4231's examples, but the fifth, whose mac is cut short; and no text by no key.
func TestP2_1OfStandard(t *testing.T) {
	row := func(x byte, n int) string { return strings.Repeat(string([]byte{x}), n) }
	tests := []struct {
		key   string
		parts []string
		want  string
	}{
		{row(0x0b, 20), []string{"Hi There"}, "b0344c61d8db38535ca8afceaf0bf12b881dc200c9833da726e9376c2e32cff7"},
		{"Jefe", []string{"what do ya want ", "for nothing?"}, "5bdcc146bf60754e6a042426089575c75a003f089d2739839dec58b964ec3843"},
		{row(0xaa, 20), []string{row(0xdd, 50)}, "773ea91e36800e46854db8ebd09181a72959098b3ef8c122d9635514ced565fe"},
		{"\x01\x02\x03\x04\x05\x06\x07\x08\x09\x0a\x0b\x0c\x0d\x0e\x0f\x10\x11\x12\x13\x14\x15\x16\x17\x18\x19", []string{row(0xcd, 50)}, "82558a389a443c0ea4cc819899f2083a85f0faa3e578f8077a2e3ff46729665b"},
		{row(0xaa, 131), []string{"Test Using Larger Than Block-Size Key - Hash Key First"}, "60e431591ee0b67f0d8a26aacbf5b77f8e0bc6213728c5140546040f0ee37f54"},
		{row(0xaa, 131), []string{"This is a test using a larger than block-size key and a larger than block-size data. ", "The key needs to be hashed before being used by the HMAC algorithm."}, "9b09ffa71b942fcb27635fbcd5b0e944bfdc63644f0713938a7f51535c3a35e2"},
		{"", nil, "b613679a0814d9ec772f95d778c35fc5ff1697c493715653c6c712144292c5ad"},
	}
	for _, x := range tests {
		var parts [][]byte
		for _, p := range x.parts {
			parts = append(parts, []byte(p))
		}
		if m := mac.Of([]byte(x.key), parts...); hex.EncodeToString(m[:]) != x.want {
			t.Errorf("key %x, %q: %x, want %s", x.key, x.parts, m, x.want)
		}
	}
}

func TestP2_1OfEachKeyLength(t *testing.T) {
	for n := range 200 {
		key := probe.Bytes(int64(n), n)
		for _, length := range []int{0, 1, 55, 56, 63, 64, 65, 200} {
			b := probe.Bytes(int64(length)+1000, length)
			if got, want := mac.Of(key, b), libraryMac(key, b); got != want {
				t.Errorf("a key of %d bytes, %d bytes: %x, want %x", n, length, got, want)
			}
		}
	}
	for _, n := range keyLengths {
		key := probe.Bytes(int64(n), n)
		if got, want := mac.Of(key, []byte("text")), libraryMac(key, []byte("text")); got != want {
			t.Errorf("a key of %d bytes: %x, want %x", n, got, want)
		}
	}
}

// Keys of one byte again and again, those among them that one of the turns brings to noughts.
func TestP2_1OfEachKeyByte(t *testing.T) {
	for x := range 256 {
		for _, n := range []int{1, 64, 65} {
			key := bytes.Repeat([]byte{byte(x)}, n)
			if got, want := mac.Of(key, []byte("text")), libraryMac(key, []byte("text")); got != want {
				t.Errorf("%d bytes of %02x: %x, want %x", n, x, got, want)
			}
		}
	}
}

func TestP2_1OfNothing(t *testing.T) {
	for _, n := range keyLengths {
		key := probe.Bytes(int64(n), n)
		none, abc := libraryMac(key), libraryMac(key, []byte("abc"))
		if mac.Of(key) != none || mac.Of(key, nil) != none || mac.Of(key, nil, []byte{}, nil) != none || mac.Of(key, [][]byte{}...) != none {
			t.Errorf("a key of %d bytes: no parts, or parts of no bytes", n)
		}
		if mac.Of(key, nil, []byte("a"), []byte{}, []byte("bc"), nil) != abc {
			t.Errorf("a key of %d bytes: parts of no bytes beside others", n)
		}
	}
	if mac.Of(nil, []byte("abc")) != mac.Of([]byte{}, []byte("abc")) {
		t.Error("a key that is nil, and one of no bytes")
	}
}

func TestP2_1OfLongText(t *testing.T) {
	key, b := probe.Bytes(1, 32), probe.Bytes(2, 1000000)
	if got, want := mac.Of(key, b), libraryMac(key, b); got != want {
		t.Errorf("%x, want %x", got, want)
	}
}

func TestP2_2Equal(t *testing.T) {
	var noughts, ones [32]byte
	copy(ones[:], bytes.Repeat([]byte{255}, 32))
	rows := [][32]byte{noughts, ones, mac.Of(nil), mac.Of([]byte("key"), []byte("text"))}
	for i, a := range rows {
		for j, b := range rows {
			if mac.Equal(a, b) != (i == j) {
				t.Errorf("%x, %x: %v", a, b, i != j)
			}
		}
	}
}

func TestP2_2EqualButOneByte(t *testing.T) {
	for _, a := range [][32]byte{{}, mac.Of([]byte("key"), []byte("text"))} {
		for i := range a {
			for x := 1; x < 256; x++ {
				b := a
				b[i] ^= byte(x)
				if mac.Equal(a, b) || mac.Equal(b, a) {
					t.Errorf("byte %d, turned by %02x: equal", i, x)
				}
				if !mac.Equal(b, b) {
					t.Errorf("byte %d, turned by %02x: not equal to itself", i, x)
				}
			}
		}
	}
}

// Differences that would cancel out, were they added, or turned by exclusive or, together.
func TestP2_2EqualButTwoBytes(t *testing.T) {
	a := mac.Of([]byte("key"), []byte("text"))
	for i := range a {
		for j := range i {
			for _, x := range []byte{1, 0x80, 0xff} {
				b, c := a, a
				b[i], b[j] = b[i]^x, b[j]^x
				c[i], c[j] = c[i]+x, c[j]-x
				if mac.Equal(a, b) || mac.Equal(a, c) {
					t.Errorf("bytes %d and %d, by %02x: equal", j, i, x)
				}
			}
		}
	}
	b := a
	slices.Reverse(b[:])
	if mac.Equal(a, b) {
		t.Error("turned round: equal")
	}
}

// timeOf answers how long a thousand comparisons take of two that differ in that place.
func timeOf(place int) time.Duration {
	var a, b [32]byte
	b[place] = 1
	start, equal := time.Now(), false
	for range 1000 {
		equal = equal || mac.Equal(a, b)
	}
	return time.Since(start)
}

// Of each place the shortest time counts: other work on the machine makes times longer, none shorter, and in enough
// rounds each place is measured in quiet. Comparisons that end early stay far apart, however many rounds there are.
func TestP2_2LengthOfComparison(t *testing.T) {
	var shortest [32]time.Duration
	apart := func() bool { return slices.Max(shortest[:])*100 > slices.Min(shortest[:])*115 }
	for round := range 5000 {
		for place, before := range shortest {
			if took := timeOf(place); round == 0 || took < before {
				shortest[place] = took
			}
		}
		if round >= 100 && !apart() {
			return
		}
	}
	t.Errorf("where two differ tells by how long it takes to compare them: %v", shortest)
}

func TestP2_3Derive(t *testing.T) {
	labels := []string{"", "ca", "\x00", "a\x00b", "\xff\xfe", "käse", strings.Repeat("l", 20), strings.Repeat("l", 21), strings.Repeat("long", 100)}
	numbers := []uint64{0, 1, 2, 255, 256, 1<<16 - 1, 1 << 16, 1 << 24, 1<<32 - 1, 1 << 32, 0x0123456789abcdef, 1<<62 - 1, 1 << 63, 1<<64 - 1}
	for _, length := range keyLengths {
		key := probe.Bytes(int64(length), length)
		for _, label := range labels {
			for _, n := range numbers {
				text := append([]byte(label), 0)
				for shift := 56; shift >= 0; shift -= 8 {
					text = append(text, byte(n>>shift))
				}
				want := libraryMac(key, text)
				if got := mac.Derive(key, label, n); !bytes.Equal(got, want[:]) {
					t.Errorf("a key of %d bytes, %q, %d: %x, want %x", length, label, n, got, want)
				}
			}
			if length > 1000 {
				break
			}
		}
	}
}

// Each bit of n counts.
func TestP2_3DeriveEachBit(t *testing.T) {
	seen := map[string]bool{}
	for i := range 65 {
		n := uint64(1) << i
		b := mac.Derive([]byte("key"), "ca", n)
		if len(b) != 32 || seen[string(b)] {
			t.Errorf("%d: %x", n, b)
		}
		seen[string(b)] = true
	}
}

// The nought keeps a label from going over into n.
func TestP2_3DeriveLabels(t *testing.T) {
	key := []byte("key")
	a, b := mac.Derive(key, "ca", 0x6100000000000000), mac.Derive(key, "ca\x00a", 0)
	if bytes.Equal(a, b) || bytes.Equal(mac.Derive(key, "", 1), mac.Derive(key, "\x00", 1)) {
		t.Error("unlike labels, one mac")
	}
	if len(mac.Derive(nil, "", 0)) != 32 {
		t.Error("no key, no label: not 32 bytes")
	}
}

func TestP2_4HandedInStays(t *testing.T) {
	for _, n := range keyLengths {
		for _, length := range []int{0, 1, 55, 64, 65, 200} {
			key, keyStays := probe.Guarded(probe.Bytes(1, n))
			b, bytesStay := probe.Guarded(probe.Bytes(2, length))
			mac.Of(key, b)
			mac.Of(key, b, nil, b)
			mac.Of(key, key)
			mac.Of(b, key)
			mac.Derive(key, "label", 7)
			if !keyStays() || !bytesStay() {
				t.Errorf("a key of %d bytes, %d bytes: what was handed in has changed", n, length)
			}
		}
	}
	a, b := mac.Of([]byte("a")), mac.Of([]byte("b"))
	mac.Equal(a, b)
	if a != mac.Of([]byte("a")) || b != mac.Of([]byte("b")) {
		t.Error("macs that were compared have changed")
	}
}

func TestP2_4RowOfPartsStays(t *testing.T) {
	mark := []byte("mark")
	row := [][]byte{[]byte("a"), nil, []byte("b"), mark, mark, mark}
	mac.Of([]byte("key"), row[:3]...)
	mac.Of([]byte("key"), row[:0]...)
	for i, want := range []string{"a", "", "b", "mark", "mark", "mark"} {
		if string(row[i]) != want {
			t.Errorf("part %d: %q, want %q", i, row[i], want)
		}
	}
	if row[1] != nil {
		t.Error("a nil part is none any more")
	}
}

func TestP2_4AnswersAreNew(t *testing.T) {
	for _, n := range keyLengths {
		key, keyStays := probe.Guarded(probe.Bytes(1, n))
		first, second := mac.Derive(key, "label", 7), mac.Derive(key, "label", 7)
		want := slices.Clone(second)
		probe.Scrub(first)
		if !keyStays() {
			t.Errorf("a key of %d bytes: the answer shares memory with it", n)
		}
		if !bytes.Equal(second, want) {
			t.Errorf("a key of %d bytes: two answers share memory", n)
		}
		probe.Scrub(key)
		if !bytes.Equal(second, want) {
			t.Errorf("a key of %d bytes: the answer has changed with it", n)
		}
	}
}

// What a key was before counts for nothing.
func TestP2_4KeyIsNotKept(t *testing.T) {
	key := []byte("one")
	mac.Of(key, []byte("text"))
	copy(key, "two")
	if got, want := mac.Of(key, []byte("text")), libraryMac([]byte("two"), []byte("text")); got != want {
		t.Errorf("%x, want %x", got, want)
	}
}

func TestP2_5Noughts(t *testing.T) {
	b := []byte("text")
	for n := range 64 {
		key := probe.Bytes(int64(n), n)
		want, derived := mac.Of(key, b), mac.Derive(key, "label", 7)
		for longer := append(slices.Clone(key), 0); len(longer) <= 64; longer = append(longer, 0) {
			if mac.Of(longer, b) != want || !bytes.Equal(mac.Derive(longer, "label", 7), derived) {
				t.Errorf("a key of %d bytes, and with noughts up to %d: unlike macs", n, len(longer))
			}
		}
		if mac.Of(append([]byte{0}, key...), b) == want && bytes.ContainsFunc(key, func(r rune) bool { return r != 0 }) {
			t.Errorf("a key of %d bytes, and with a nought ahead: one mac", n)
		}
	}
	full := probe.Bytes(64, 64)
	if mac.Of(append(slices.Clone(full), 0), b) == mac.Of(full, b) {
		t.Error("a key of 64 bytes, and with a nought behind it: one mac")
	}
}

func TestP2_6LongKeys(t *testing.T) {
	b := []byte("text")
	for _, n := range []int{65, 66, 127, 128, 129, 1000, 100000} {
		key := probe.Bytes(int64(n), n)
		sum := sha256.Sum256(key)
		if mac.Of(key, b) != mac.Of(sum[:], b) || !bytes.Equal(mac.Derive(key, "label", 7), mac.Derive(sum[:], "label", 7)) {
			t.Errorf("a key of %d bytes, and its sum: unlike macs", n)
		}
	}
	for _, n := range []int{0, 1, 32, 63, 64} {
		key := probe.Bytes(int64(n), n)
		sum := sha256.Sum256(key)
		if mac.Of(key, b) == mac.Of(sum[:], b) {
			t.Errorf("a key of %d bytes, and its sum: one mac", n)
		}
	}
}

func TestP2_7CutAnywhere(t *testing.T) {
	b := probe.Bytes(7, 200)
	for _, n := range []int{0, 20, 64, 65} {
		key := probe.Bytes(int64(n), n)
		want := libraryMac(key, b)
		for i := range len(b) + 1 {
			if got := mac.Of(key, b[:i], b[i:]); got != want {
				t.Errorf("a key of %d bytes, cut at %d: %x, want %x", n, i, got, want)
			}
		}
	}
}

func TestP2_7CutOften(t *testing.T) {
	r := rand.New(rand.NewSource(8))
	for seed := range int64(200) {
		key, b := probe.Bytes(seed, r.Intn(100)), probe.Bytes(seed+1000, r.Intn(600))
		var parts [][]byte
		for left := b; len(left) > 0; {
			n := r.Intn(min(len(left), 150) + 1)
			parts, left = append(parts, left[:n]), left[n:]
		}
		if got, want := mac.Of(key, parts...), libraryMac(key, b); got != want {
			t.Errorf("seed %d, %d parts: %x, want %x", seed, len(parts), got, want)
		}
	}
	b := probe.Bytes(9, 130)
	var each [][]byte
	for i := range b {
		each = append(each, b[i:i+1])
	}
	if got, want := mac.Of([]byte("key"), each...), libraryMac([]byte("key"), b); got != want {
		t.Errorf("byte by byte: %x, want %x", got, want)
	}
}
