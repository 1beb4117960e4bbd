package policy_test

import (
	"bytes"
	"math/rand"
	"testing"

	"gatepost/api"
	"gatepost/policy"
	"gatepost/probe"
)

func TestP12_5ThereAndBack(t *testing.T) {
	r := rand.New(rand.NewSource(1))
	l := goodPolicies()
	for range 1000 {
		l = append(l, somePolicy(r))
	}
	for _, p := range l {
		b, err := policy.Encode(p)
		if err != api.OK {
			t.Errorf("%.500s: %d", text(p), err)
		}
		q, err := policy.Decode(b)
		if err != api.OK || !policy.Same(p, q) || text(p) != text(q) || !policy.May(q) {
			t.Errorf("%.500s: %d, %.500s", text(p), err, text(q))
		}
		if again, err := policy.Encode(q); err != api.OK || !bytes.Equal(again, b) {
			t.Errorf("%.500s: %d, %x, were %x", text(p), err, again, b)
		}
	}
}

// No beginning of bytes is decoded, nor these with more behind.
func TestP12_5NothingElse(t *testing.T) {
	r := rand.New(rand.NewSource(2))
	l := append(goodPolicies()[:13], mixed(), api.Policy{Id: 8, Rules: []api.Rule{mostOf()}})
	for range 60 {
		l = append(l, somePolicy(r))
	}
	for _, p := range l {
		b, _ := policy.Encode(p)
		for n := range b {
			checkNone(t, "a beginning", b[:n])
		}
		for x := range 256 {
			checkNone(t, "one byte more", append(bytes.Clone(b), byte(x)))
		}
		checkNone(t, "twice", append(bytes.Clone(b), b...))
	}
}

// checkDecoded tells if b is decoded as something that may not be, or has other bytes.
func checkDecoded(t *testing.T, b []byte) (is bool) {
	t.Helper()
	p, err := policy.Decode(b)
	if err != api.OK {
		if err != api.ErrForm || text(p) != text(api.Policy{}) {
			t.Errorf("%.300x: %d, %.500s", b, err, text(p))
		}
		return false
	}
	again, err := policy.Encode(p)
	if err != api.OK || !bytes.Equal(again, b) || !isPolicy(p) || !bytes.Equal(bytesOf(p), b) {
		t.Errorf("%.300x: %.500s, whose bytes are %d, %.300x", b, text(p), err, again)
	}
	return true
}

func TestP12_5DecodedNear(t *testing.T) {
	n := 0
	for _, p := range []api.Policy{{Id: 1}, {Id: 300, Ns: "a-b", Service: 200, Deny: 1, Rules: make([]api.Rule, 1)}, mixed()} {
		for s := range probe.Near(string(bytesOf(p))) {
			if checkDecoded(t, []byte(s)) {
				n++
			}
		}
	}
	if n < 1000 {
		t.Errorf("only %d near policies' bytes are decoded", n)
	}
}

func TestP12_5DecodedEdited(t *testing.T) {
	r := rand.New(rand.NewSource(4))
	n := 0
	for range 20000 {
		s := string(bytesOf(somePolicy(r)))
		if len(s) > 400 {
			continue
		}
		if checkDecoded(t, []byte(probe.Edited(s, "\x00\x00\x01\x01\x02\x03\x04\x05\x06\x07\x50ab*,\x7f\x80\xff", r.Intn))) {
			n++
		}
	}
	if n < 1000 {
		t.Errorf("only %d edited policies' bytes are decoded", n)
	}
}

func TestP12_5DecodedShort(t *testing.T) {
	for _, s := range probe.Texts(7, "\x00", "\x01", "\x02", "\x80") {
		checkDecoded(t, []byte("\x01\x00\x00\x00\x01"+s))
		checkDecoded(t, []byte(s))
	}
}

func TestP12_5UnlikeBytes(t *testing.T) {
	seen := map[string]string{}
	l := append(unlike(mixed()), unlike(api.Policy{Id: 3, Rules: []api.Rule{mostOf()}})...)
	for _, p := range append(l, goodPolicies()...) {
		b, err := policy.Encode(p)
		if err != api.OK {
			continue
		}
		if was, ok := seen[string(b)]; ok && was != text(p) {
			t.Errorf("%.500s and %.500s have the same bytes %x", was, text(p), b)
		}
		seen[string(b)] = text(p)
	}
	if len(seen) < 100 {
		t.Errorf("only %d policies have bytes", len(seen))
	}
}
