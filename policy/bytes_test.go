package policy_test

import (
	"bytes"
	"encoding/binary"
	"math"
	"math/rand"
	"strings"
	"testing"

	"gatepost/api"
	"gatepost/policy"
)

func TestP12_3Examples(t *testing.T) {
	for _, x := range []struct {
		p    api.Policy
		want string
	}{
		{
			api.Policy{Id: 3, Deny: 1, Rules: []api.Rule{{To: []api.Target{{Ports: []int{80}, Methods: exact("GET")}}}}},
			"\x03\x00\x00\x01\x01" + "\x00" + "\x01\x01\x50\x01\x01\x03GET\x00\x00" + "\x00",
		},
		{api.Policy{Id: 1}, "\x01\x00\x00\x00\x00"},
		{api.Policy{Id: 300, Ns: "shop", Service: 1 << 32}, "\xac\x02\x04shop\x80\x80\x80\x80\x10\x00\x00"},
		{api.Policy{Id: 1<<62 - 1, Rules: make([]api.Rule, 2)}, "\xff\xff\xff\xff\xff\xff\xff\xff\x3f\x00\x00\x00\x02" + "\x00\x00\x00" + "\x00\x00\x00"},
		{
			api.Policy{Id: 1, Rules: []api.Rule{{From: []api.Source{{Nets: []api.Cidr{{Addr: 0x0a0b0000, Bits: 16}}}, {Names: exact("n"), Spaces: []api.Term{{Kind: api.TermPresent}}}}}}},
			"\x01\x00\x00\x00\x01" + "\x02" + "\x00\x00\x01\x00\x00\x0b\x0a\x10" + "\x01\x01\x01n\x01\x04\x00\x00" + "\x00" + "\x00",
		},
		{
			api.Policy{Id: 1, Rules: []api.Rule{{To: []api.Target{{Ports: []int{127, 128, 65535}}, {Paths: []api.Term{{Kind: api.TermPrefix, Text: "/a"}}}, {Hosts: []api.Term{{Kind: api.TermSuffix, Text: "b"}}}}}}},
			"\x01\x00\x00\x00\x01" + "\x00" + "\x03" + "\x03\x7f\x80\x01\xff\xff\x03\x00\x00\x00" + "\x00\x00\x01\x02\x02/a\x00" + "\x00\x00\x00\x01\x03\x01b" + "\x00",
		},
		{
			api.Policy{Id: 1, Rules: []api.Rule{{When: []api.When{{Head: "x-a", Terms: exact("1", "2")}}}}},
			"\x01\x00\x00\x00\x01" + "\x00" + "\x00" + "\x01\x03x-a\x02\x01\x011\x01\x012",
		},
	} {
		if b, err := policy.Encode(x.p); string(b) != x.want || err != api.OK {
			t.Errorf("%s: %x, %d, want %x", text(x.p), b, err, x.want)
		}
		if p, err := policy.Decode([]byte(x.want)); text(p) != text(x.p) || err != api.OK {
			t.Errorf("%x: %s, %d, want %s", x.want, text(p), err, text(x.p))
		}
	}
}

// checkBytes tells if the policy, which may be, has not the bytes that the words say, or is not what they are decoded as.
func checkBytes(t *testing.T, p api.Policy) {
	t.Helper()
	want := bytesOf(p)
	if b, err := policy.Encode(p); !bytes.Equal(b, want) || err != api.OK {
		t.Errorf("%.500s: %.300x, %d, want %.300x", text(p), b, err, want)
	}
	if q, err := policy.Decode(want); text(q) != text(p) || err != api.OK {
		t.Errorf("%.300x: %.500s, %d, want %.500s", want, text(q), err, text(p))
	}
}

func TestP12_3Good(t *testing.T) {
	for _, p := range goodPolicies() {
		checkBytes(t, p)
	}
	r := rand.New(rand.NewSource(1))
	for range 2000 {
		checkBytes(t, somePolicy(r))
	}
}

// checkNone tells if b is decoded.
func checkNone(t *testing.T, told string, b []byte) {
	t.Helper()
	if p, err := policy.Decode(b); err != api.ErrForm || text(p) != text(api.Policy{}) {
		t.Errorf("%s: %.200x: %d, %.500s", told, b, err, text(p))
	}
}

// A policy that may not be has no bytes; those that it would have are no policy's.
func TestP12_3Bad(t *testing.T) {
	for _, p := range badPolicies() {
		if b, err := policy.Encode(p); err != api.ErrArg || len(b) != 0 {
			t.Errorf("%.500s: %d, %.100x", text(p), err, b)
		}
		if hasBytes(p) {
			checkNone(t, text(p)[:min(len(text(p)), 500)], bytesOf(p))
		}
	}
	for _, p := range unlike(mixed()) {
		if isPolicy(p) {
			checkBytes(t, p)
		} else if b, err := policy.Encode(p); err != api.ErrArg || len(b) != 0 {
			t.Errorf("%.500s: %d, %.100x", text(p), err, b)
		} else if hasBytes(p) {
			checkNone(t, text(p), bytesOf(p))
		}
	}
}

// wide answers x as a number of more bytes than it has.
func wide(x uint64, n int) string {
	b := binary.AppendUvarint(nil, x)
	b[len(b)-1] |= 0x80
	return string(b) + strings.Repeat("\x80", n-1) + "\x00"
}

// Each short number, at its place, of too many bytes, or of none that end.
func TestP12_3NumbersOfOneForm(t *testing.T) {
	for _, l := range [][]string{
		{"\x01", "\x00", "\x00", "\x00", "\x01", "\x00", "\x00", "\x00"},
		{"\x01", "\x01a", "\x02", "\x01", "\x01", "\x01", "\x00", "\x00", "\x00", "\x01", "\x00", "\x00", "\x00", "\x00", "\x00"},
		{"\x01", "\x00", "\x00", "\x00", "\x01", "\x00", "\x01", "\x01", "\x50", "\x01", "\x04", "\x00", "\x00", "\x00", "\x01", "\x01x", "\x01", "\x04", "\x00"},
	} {
		whole := strings.Join(l, "")
		if _, err := policy.Decode([]byte(whole)); err != api.OK {
			t.Fatalf("%x: %d", whole, err)
		}
		for i, x := range l {
			ahead, behind := strings.Join(l[:i], ""), x[1:]+strings.Join(l[i+1:], "")
			if strings.HasPrefix(x, "\x04") {
				continue // a term's kind is a byte, no short number
			}
			for _, n := range []int{1, 2, 8, 9, 12} {
				checkNone(t, "a number of more bytes", []byte(ahead+wide(uint64(x[0]), n)+behind))
			}
			checkNone(t, "a number without an end", []byte(ahead+strings.Repeat("\xff", 12)+behind))
		}
	}
}

// Each row's size, at its place, beyond the most, with as many behind it, and without.
func TestP12_3TooMany(t *testing.T) {
	for _, x := range []struct {
		told, ahead, one, behind string
		most                     int
	}{
		{"rules", "\x01\x00\x00\x00", "\x00\x00\x00", "", 6},
		{"sources", "\x01\x00\x00\x00\x01", "\x00\x00\x00", "\x00\x00", 3},
		{"targets", "\x01\x00\x00\x00\x01\x00", "\x00\x00\x00\x00", "\x00", 3},
		{"conditions", "\x01\x00\x00\x00\x01\x00\x00", "\x01x\x01\x04\x00", "", 3},
		{"names", "\x01\x00\x00\x00\x01\x01", "\x04\x00", "\x00\x00\x00\x00", 6},
		{"namespaces", "\x01\x00\x00\x00\x01\x01\x00", "\x04\x00", "\x00\x00\x00", 6},
		{"nets", "\x01\x00\x00\x00\x01\x01\x00\x00", "\x00\x00\x00\x00\x00", "\x00\x00", 6},
		{"methods", "\x01\x00\x00\x00\x01\x00\x01\x00", "\x04\x00", "\x00\x00\x00", 6},
		{"paths", "\x01\x00\x00\x00\x01\x00\x01\x00\x00", "\x04\x00", "\x00\x00", 6},
		{"hosts", "\x01\x00\x00\x00\x01\x00\x01\x00\x00\x00", "\x04\x00", "\x00", 6},
		{"a condition's terms", "\x01\x00\x00\x00\x01\x00\x00\x01\x01x", "\x04\x00", "", 6},
	} {
		whole := func(n int) []byte { return []byte(x.ahead + string(rune(n)) + strings.Repeat(x.one, n) + x.behind) }
		if _, err := policy.Decode(whole(x.most)); err != api.OK {
			t.Errorf("%s, %d: %d", x.told, x.most, err)
		}
		for n := x.most + 1; n < 128; n++ {
			checkNone(t, x.told, whole(n))
		}
		for _, n := range []uint64{7, 127, 128, 255, 256, 256 + 1, 1 << 16, 1<<16 + 1, 1<<31 - 1, 1 << 32, 1<<32 + 1, 1 << 62, math.MaxInt64, 1 << 63, 1<<63 + 1, math.MaxUint64} {
			size := string(binary.AppendUvarint(nil, n))
			checkNone(t, x.told, []byte(x.ahead+size))
			checkNone(t, x.told, []byte(x.ahead+size+x.one+x.behind))
			checkNone(t, x.told, []byte(x.ahead+size+strings.Repeat(x.one, 300)+x.behind))
		}
	}
}

// Each number, at its place, with all that it may be and may not: such as would be one that may be, cut to fewer bits, too.
func TestP12_3Numbers(t *testing.T) {
	for _, x := range []struct {
		told, ahead, behind string
		may                 func(x uint64) bool
	}{
		{"Id", "", "\x00\x00\x00\x00", func(x uint64) bool { return x >= 1 && x <= 1<<62-1 }},
		{"Service", "\x01\x00", "\x00\x00", func(x uint64) bool { return x <= 1<<62-1 }},
		{"Deny", "\x01\x00\x00", "\x00", func(x uint64) bool { return x <= 1 }},
		{"a port", "\x01\x00\x00\x00\x01\x00\x01\x01", "\x00\x00\x00\x00", func(x uint64) bool { return x >= 1 && x <= 65535 }},
		{"a second port", "\x01\x00\x00\x00\x01\x00\x01\x02\x50", "\x00\x00\x00\x00", func(x uint64) bool { return x >= 1 && x <= 65535 && x != 80 }},
	} {
		for n := range 64 {
			one, high := uint64(1)<<n, ^uint64(0)<<n
			for _, v := range []uint64{one, one - 1, one + 1, one + 80, one - 1 + 1<<63, high, high + 1, high + 80} {
				b := []byte(x.ahead + string(binary.AppendUvarint(nil, v)) + x.behind)
				_, err := policy.Decode(b)
				if (err == api.OK) != x.may(v) || err != api.OK && err != api.ErrForm {
					t.Errorf("%s %d: %d", x.told, v, err)
				}
			}
		}
	}
	for kind := range 256 {
		for bits := range 256 {
			b := []byte("\x01\x00\x00\x00\x01\x01\x01" + string([]byte{byte(kind)}) + "\x01a\x00\x01\x00\x00\x00\x00" + string([]byte{byte(bits)}) + "\x00\x00")
			if _, err := policy.Decode(b); (err == api.OK) != (kind >= 1 && kind <= 3 && bits <= 32) {
				t.Errorf("the kind %d, a net of %d bits: %d", kind, bits, err)
			}
		}
	}
}

func TestP12_3NoPolicys(t *testing.T) {
	for _, s := range []string{"", "\x00", "\x01", "\x00\x00\x00\x00\x00", "\x01\x00\x00\x00\x00\x00", "\x01\x02a\x00\x00\x00", "\x01\x01A\x00\x00\x00", "\x01\x15" + label20 + "9\x00\x00\x00", "\x01\x80\x80\x80\x80\x10\x00\x00\x00", "\x01" + strings.Repeat("\xff", 9) + "\x01a\x00\x00\x00", strings.Repeat("\x00", 1000), strings.Repeat("\xff", 1000), strings.Repeat("\x01", 1000), strings.Repeat("\x06", 1<<16), "policy"} {
		checkNone(t, "no policy's bytes", []byte(s))
	}
	checkNone(t, "none", nil)
}
