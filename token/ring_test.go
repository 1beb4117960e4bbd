package token_test

import (
	"bytes"
	"strings"
	"testing"

	"gatepost/api"
	"gatepost/probe"
	"gatepost/token"
)

func TestP6_1MayRing(t *testing.T) {
	for _, r := range goodRings() {
		if !token.MayRing(r) {
			t.Errorf("%+v may be", r)
		}
	}
	for _, r := range badRings() {
		if token.MayRing(r) {
			t.Errorf("%d bytes, from %d to %d: may not be", len(r.Root), r.Oldest, r.Newest)
		}
	}
	for n := range 300 {
		if may := token.MayRing(api.Ring{Root: make([]byte, n, 300), Oldest: 1, Newest: 1}); may != (n >= 1 && n <= 64) {
			t.Errorf("%d bytes: %v", n, may)
		}
	}
}

// sameRing tells whether two rings are the same.
func sameRing(a, b api.Ring) bool {
	return bytes.Equal(a.Root, b.Root) && a.Oldest == b.Oldest && a.Newest == b.Newest
}

func TestP6_4Turned(t *testing.T) {
	const top = api.MaxCount
	for _, x := range []struct {
		oldest, newest uint64
		rotate, retire api.Errno
	}{
		{1, 1, api.OK, api.ErrFull},
		{1, 2, api.OK, api.OK},
		{1, 3, api.OK, api.OK},
		{2, 2, api.OK, api.ErrFull},
		{2, 3, api.OK, api.OK},
		{7, 1 << 40, api.OK, api.OK},
		{1, top - 1, api.OK, api.OK},
		{top - 1, top - 1, api.OK, api.ErrFull},
		{1, top, api.ErrFull, api.OK},
		{top - 1, top, api.ErrFull, api.OK},
		{top, top, api.ErrFull, api.ErrFull},
	} {
		for _, root := range []string{"k", "\x00", strings.Repeat("k", 64)} {
			r := api.Ring{Root: []byte(root), Oldest: x.oldest, Newest: x.newest}
			var rotated, retired api.Ring
			if x.rotate == api.OK {
				rotated = api.Ring{Root: []byte(root), Oldest: x.oldest, Newest: x.newest + 1}
			}
			if x.retire == api.OK {
				retired = api.Ring{Root: []byte(root), Oldest: x.oldest + 1, Newest: x.newest}
			}
			if got, err := token.Rotate(r); !sameRing(got, rotated) || err != x.rotate {
				t.Errorf("Rotate of %d to %d: %+v, %d", x.oldest, x.newest, got, err)
			}
			if got, err := token.Retire(r); !sameRing(got, retired) || err != x.retire {
				t.Errorf("Retire of %d to %d: %+v, %d", x.oldest, x.newest, got, err)
			}
		}
	}
}

// What may not be is told ahead of there being no room.
func TestP6_4Wrong(t *testing.T) {
	for _, r := range append(badRings(), api.Ring{Oldest: 1, Newest: api.MaxCount}, api.Ring{Oldest: api.MaxCount, Newest: api.MaxCount}) {
		for i, turn := range []func(api.Ring) (api.Ring, api.Errno){token.Rotate, token.Retire} {
			if got, err := turn(r); !sameRing(got, api.Ring{}) || err != api.ErrArg {
				t.Errorf("turn %d of %d bytes, from %d to %d: %+v, %d", i, len(r.Root), r.Oldest, r.Newest, got, err)
			}
		}
	}
}

// A retired key signs no more, a rotated ring signs by a new one.
func TestP6_4Example(t *testing.T) {
	r := api.Ring{Root: []byte("k"), Oldest: 1, Newest: 1}
	x, _ := token.Issue(r, web, 7, 2, 0x0a000007, 5)
	r, _ = token.Rotate(r)
	y, _ := token.Issue(r, web, 7, 2, 0x0a000007, 5)
	if token.Verify(r, x, 5) != api.OK || token.Verify(r, y, 5) != api.OK || y.Key != 2 || x.Mac == y.Mac {
		t.Errorf("rotated: %+v, %+v", x, y)
	}
	r, err := token.Retire(r)
	if err != api.OK || token.Verify(r, x, 5) != api.ErrSign || token.Verify(r, y, 5) != api.OK {
		t.Errorf("retired: %+v, %d", r, err)
	}
}

func TestP6_6TurnedRingsAreNew(t *testing.T) {
	for _, turn := range []func(api.Ring) (api.Ring, api.Errno){token.Rotate, token.Retire} {
		for _, root := range []string{"k", string(probe.Bytes(5, 64))} {
			given, stays := probe.Guarded([]byte(root))
			r := api.Ring{Root: given, Oldest: 1, Newest: 2}
			first, _ := turn(r)
			second, _ := turn(r)
			before := []byte(root)
			_ = append(first.Root, "more"...)
			probe.Scrub(first.Root)
			if !stays() || !bytes.Equal(second.Root, before) || r.Oldest != 1 || r.Newest != 2 {
				t.Errorf("%x: behind a change of what was answered", root)
			}
			probe.Scrub(given)
			if !bytes.Equal(second.Root, before) {
				t.Errorf("%x: behind a change of what was given", root)
			}
		}
	}
}

// smallRings are all rings of the root with keys from 1 to 5.
func smallRings(root string) []api.Ring {
	var l []api.Ring
	for oldest := uint64(1); oldest <= 5; oldest++ {
		for newest := oldest; newest <= 5; newest++ {
			l = append(l, api.Ring{Root: []byte(root), Oldest: oldest, Newest: newest})
		}
	}
	return l
}

func TestP6_10RingsOfOneRoot(t *testing.T) {
	for _, a := range smallRings("k") {
		x, err := token.Issue(a, web, 7, 2, 9, 5)
		if err != api.OK {
			t.Fatal(err)
		}
		for _, b := range smallRings("k") {
			want := api.ErrSign
			if b.Oldest <= x.Key && x.Key <= b.Newest {
				want = api.OK
			}
			if err := token.Verify(b, x, 5); err != want {
				t.Errorf("a token by %d to %d, ring from %d to %d: %d", a.Oldest, a.Newest, b.Oldest, b.Newest, err)
			}
		}
	}
}

func TestP6_10RingsOfOtherRoots(t *testing.T) {
	roots := []string{"k", "l", "kk", "K", "\x00k", "k ", "k\x01", strings.Repeat("k", 63), strings.Repeat("k", 64), string(probe.Bytes(6, 64))}
	for _, root := range roots {
		for _, other := range roots {
			want := api.ErrSign
			if root == other {
				want = api.OK
			}
			x, _ := token.Issue(api.Ring{Root: []byte(root), Oldest: 1, Newest: 2}, web, 7, 2, 9, 5)
			if err := token.Verify(api.Ring{Root: []byte(other), Oldest: 2, Newest: 3}, x, 5); err != want {
				t.Errorf("by the root %q, of %q: %d", other, root, err)
			}
		}
	}
}

// A key and the same with noughts behind it have the same macs (P2.5), and so have roots.
func TestP6_10RootsWithNoughts(t *testing.T) {
	for _, root := range []string{"k", "\x00", strings.Repeat("k", 63)} {
		for n := range 64 - len(root) + 1 {
			x, _ := token.Issue(api.Ring{Root: []byte(root), Oldest: 1, Newest: 1}, web, 7, 2, 9, 5)
			if err := token.Verify(api.Ring{Root: []byte(root + strings.Repeat("\x00", n)), Oldest: 1, Newest: 1}, x, 5); err != api.OK {
				t.Errorf("%q, and %d noughts behind it: %d", root, n, err)
			}
		}
	}
}
