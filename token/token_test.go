package token_test

import (
	"encoding/hex"
	"fmt"
	"math"
	"strings"
	"testing"
	"unsafe"

	"gatepost/api"
	"gatepost/probe"
	"gatepost/token"
)

func TestP6_1May(t *testing.T) {
	for _, x := range goodTokens() {
		if !token.May(x) || !mayBe(x) {
			t.Errorf("%+v may be", x)
		}
	}
	for _, x := range badTokens() {
		if token.May(x) || mayBe(x) {
			t.Errorf("%.300q may not be", fmt.Sprintf("%+v", x))
		}
	}
}

// Each choice of some values for all fields.
func TestP6_1MayEachChoice(t *testing.T) {
	counts := []uint64{0, 1, 7, api.MaxCount, api.MaxCount + 1, math.MaxUint64}
	fine := 0
	for _, n := range []api.Name{web, {Ns: "shop"}, {Sa: "web"}, {Ns: "Shop", Sa: "web"}, {Ns: "a", Sa: strings.Repeat("b", 21)}} {
		for _, host := range []int{-1, 0, 1, 9, 10} {
			for _, uid := range counts {
				for _, key := range counts {
					for _, born := range counts {
						for _, until := range counts {
							x := api.Token{Name: n, Uid: uid, Host: host, Born: born, Until: until, Key: key}
							if token.May(x) != mayBe(x) {
								t.Fatalf("%+v: %v", x, token.May(x))
							}
							if token.May(x) {
								fine++
							}
						}
					}
				}
			}
		}
	}
	if want := 1 * 2 * 3 * 3 * 6; fine != want {
		t.Errorf("%d may be, want %d", fine, want)
	}
}

func TestP6_2Example(t *testing.T) {
	want := librarySigned("k", example())
	got, err := token.Issue(api.Ring{Root: []byte("k"), Oldest: 1, Newest: 1}, web, 7, 2, 0x0a000007, 5)
	if got != want || err != api.OK {
		t.Errorf("%+v, %d", got, err)
	}
	if m := hex.EncodeToString(got.Mac[:]); m != "13a5d772b95e0e6846b114e13f4aaa2eab80defd7e99f2fe61e9fc678084cbb8" {
		t.Errorf("mac %s", m)
	}
}

// All at its greatest, with a mac that another program has made.
func TestP6_2Greatest(t *testing.T) {
	root := make([]byte, 64)
	for i := range root {
		root[i] = byte(i)
	}
	got, err := token.Issue(api.Ring{Root: root, Oldest: 1, Newest: api.MaxCount}, api.Name{Ns: "a", Sa: strings.Repeat("0", 20)}, api.MaxCount, 9, math.MaxUint32, api.MaxCount-200)
	if err != api.OK || got.Born != api.MaxCount-200 || got.Until != api.MaxCount || got.Key != api.MaxCount {
		t.Errorf("%+v, %d", got, err)
	}
	if m := hex.EncodeToString(got.Mac[:]); m != "c767fb20130ddfc2ca68b02730e27d16337055075546d982ad40908e66a85460" {
		t.Errorf("mac %s", m)
	}
}

func TestP6_2Issue(t *testing.T) {
	for _, r := range goodRings() {
		for _, x := range goodTokens() {
			for _, now := range []uint64{0, 5, 1 << 40, api.MaxCount - 201, api.MaxCount - 200} {
				want := x
				want.Born, want.Until, want.Key = now, now+200, r.Newest
				want = librarySigned(string(r.Root), want)
				if got, err := token.Issue(r, x.Name, x.Uid, x.Host, x.Addr, now); got != want || err != api.OK {
					t.Fatalf("%+v, at %d: %+v, %d", r, now, got, err)
				}
			}
		}
	}
}

func TestP6_2Wrong(t *testing.T) {
	check := func(told string, r api.Ring, n api.Name, uid uint64, host int, now uint64) {
		t.Helper()
		if x, err := token.Issue(r, n, uid, host, 7, now); x != (api.Token{}) || err != api.ErrArg {
			t.Errorf("%s: %+v, %d", told, x, err)
		}
	}
	for _, r := range badRings() {
		check(fmt.Sprintf("the ring %+v", r), r, web, 7, 2, 5)
	}
	r := goodRings()[0]
	for _, x := range badTokens() {
		bad := x.Name != web || x.Uid != 7 || x.Host != 2 // what Issue is not handed can't be wrong
		if bad {
			check(fmt.Sprintf("%.300q", fmt.Sprintf("%+v", x)), r, x.Name, x.Uid, x.Host, 5)
		}
	}
	for _, now := range []uint64{api.MaxCount - 199, api.MaxCount - 1, api.MaxCount, api.MaxCount + 1, math.MaxInt64, 1 << 63, math.MaxUint64 - 201, math.MaxUint64 - 200, math.MaxUint64 - 199, math.MaxUint64 - 1, math.MaxUint64} {
		check(fmt.Sprintf("now %d", now), r, web, 7, 2, now)
	}
	check("nothing", api.Ring{}, api.Name{}, 0, 0, 0)
}

// sameMemory tells whether two texts begin at one place.
func sameMemory(s, x string) bool { return unsafe.StringData(s) == unsafe.StringData(x) }

func TestP6_6IssueKeepsNothing(t *testing.T) {
	root, stays := probe.Guarded([]byte("some root"))
	r := api.Ring{Root: root, Oldest: 1, Newest: 3}
	n := api.Name{Ns: strings.Clone("shop"), Sa: strings.Clone("web")}
	first, err := token.Issue(r, n, 7, 2, 9, 5)
	if err != api.OK || token.Verify(r, first, 5) != api.OK || token.Verify(r, first, 500) != api.ErrStale || token.Verify(r, api.Token{}, 5) != api.ErrArg {
		t.Errorf("%+v, %d", first, err)
	}
	second, _ := token.Issue(r, n, 7, 2, 9, 5)
	for _, x := range [][2]string{{first.Name.Ns, n.Ns}, {first.Name.Sa, n.Sa}, {first.Name.Ns, second.Name.Ns}, {first.Name.Sa, second.Name.Sa}} {
		if x[0] != x[1] || sameMemory(x[0], x[1]) {
			t.Errorf("%q and %q: others, or of one memory", x[0], x[1])
		}
	}
	if !stays() || r.Oldest != 1 || r.Newest != 3 {
		t.Error("the ring is changed, or the room behind its root")
	}
	probe.Scrub(root)
	if third, _ := token.Issue(r, n, 7, 2, 9, 5); third == first || first != second {
		t.Error("of another root: the same token, or the root was kept")
	}
}
