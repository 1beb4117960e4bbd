package token_test

import (
	"crypto/sha256"
	"encoding/binary"
	"fmt"
	"math"
	"math/bits"
	"math/rand"
	"strings"
	"testing"

	"gatepost/api"
	"gatepost/probe"
	"gatepost/token"
)

func TestP6_3Examples(t *testing.T) {
	r := api.Ring{Root: []byte("k"), Oldest: 1, Newest: 1}
	x := librarySigned("k", example())
	for now, want := range map[uint64]api.Errno{5: api.OK, 204: api.OK, 205: api.ErrStale, 4: api.ErrStale} {
		if err := token.Verify(r, x, now); err != want {
			t.Errorf("at %d: %d", now, err)
		}
	}
	other := x
	other.Uid = 8
	if err := token.Verify(r, other, 5); err != api.ErrSign {
		t.Errorf("with Uid 8: %d", err)
	}
	if err := token.Verify(api.Ring{Root: []byte("l"), Oldest: 1, Newest: 1}, x, 5); err != api.ErrSign {
		t.Errorf("by a ring of another root: %d", err)
	}
}

// Whatever may be and is signed is verified, whether it was issued so or not.
func TestP6_3Signed(t *testing.T) {
	for _, x := range goodTokens() {
		for _, root := range []string{"k", "\x00\x01", strings.Repeat("k", 64)} {
			for _, r := range []api.Ring{{Root: []byte(root), Oldest: 1, Newest: api.MaxCount}, {Root: []byte(root), Oldest: x.Key, Newest: x.Key}} {
				if err := token.Verify(r, librarySigned(root, x), x.Born); err != api.OK {
					t.Errorf("%+v, of %q: %d", x, root, err)
				}
				if err := token.Verify(r, librarySigned(root+"-", x), x.Born); err != api.ErrSign {
					t.Errorf("%+v, of another root than %q: %d", x, root, err)
				}
				if err := token.Verify(r, x, x.Born); err != api.ErrSign {
					t.Errorf("%+v, signed by nobody: %d", x, err)
				}
			}
		}
	}
}

// Each field is signed: another value verifies no more, till it is signed anew.
func TestP6_3EachField(t *testing.T) {
	r := api.Ring{Root: []byte("k"), Oldest: 1, Newest: 9}
	for i, change := range []func(t *api.Token){
		func(t *api.Token) { t.Name.Ns = "shops" },
		func(t *api.Token) { t.Name.Sa = "db" },
		func(t *api.Token) { t.Name = api.Name{Ns: "web", Sa: "shop"} },
		func(t *api.Token) { t.Name = api.Name{Ns: "shopw", Sa: "eb"} },
		func(t *api.Token) { t.Uid = 8 },
		func(t *api.Token) { t.Uid = 7 | 1<<61 },
		func(t *api.Token) { t.Uid, t.Host = 2, 7 },
		func(t *api.Token) { t.Host = 3 },
		func(t *api.Token) { t.Addr = 0x0a000008 },
		func(t *api.Token) { t.Addr = 0x0700000a },
		func(t *api.Token) { t.Addr = 0x8a000007 },
		func(t *api.Token) { t.Born = 4 },
		func(t *api.Token) { t.Until = 206 },
		func(t *api.Token) { t.Until = api.MaxCount },
		func(t *api.Token) { t.Key = 2 },
	} {
		x := librarySigned("k", example())
		if err := token.Verify(r, x, 5); err != api.OK {
			t.Fatalf("%+v: %d", x, err)
		}
		change(&x)
		if err := token.Verify(r, x, 5); err != api.ErrSign {
			t.Errorf("change %d: %d", i, err)
		}
		if err := token.Verify(r, librarySigned("k", x), 5); err != api.OK {
			t.Errorf("change %d, signed anew: %d", i, err)
		}
	}
}

// A mac that is right but for its key, its label or what it is of.
func TestP6_3OtherMacs(t *testing.T) {
	x := example()
	number := binary.BigEndian.AppendUint64(nil, x.Key)
	key := libraryMac([]byte("k"), append([]byte("ca\x00"), number...))
	sum := sha256.Sum256(append(key, librarySaid(x)...))
	for i, m := range [][]byte{
		libraryMac([]byte("k"), librarySaid(x)),
		libraryMac(libraryMac([]byte("k"), append([]byte("ca"), number...)), librarySaid(x)),
		libraryMac(libraryMac([]byte("k"), append([]byte("cb\x00"), number...)), librarySaid(x)),
		libraryMac(libraryMac([]byte("k"), binary.LittleEndian.AppendUint64([]byte("ca\x00"), x.Key)), librarySaid(x)),
		libraryMac(key, librarySaid(x)[1:]),
		libraryMac(key, append(librarySaid(x), 0)),
		libraryMac(key, append(librarySaid(x), x.Mac[:]...)),
		libraryMac(key, nil),
		sum[:],
		key,
		make([]byte, 32),
	} {
		x.Mac = [32]byte(m)
		if err := token.Verify(api.Ring{Root: []byte("k"), Oldest: 1, Newest: 1}, x, 5); err != api.ErrSign {
			t.Errorf("mac %d: %d", i, err)
		}
	}
}

func TestP6_3KeysThatCount(t *testing.T) {
	numbers := []uint64{1, 2, 3, 4, 5, api.MaxCount - 1, api.MaxCount}
	for _, oldest := range numbers {
		for _, newest := range numbers {
			for _, key := range numbers {
				r := api.Ring{Root: []byte("k"), Oldest: oldest, Newest: newest}
				x := librarySigned("k", with(func(t *api.Token) { t.Key = key }))
				want := api.OK
				if oldest > newest {
					want = api.ErrArg
				} else if key < oldest || key > newest {
					want = api.ErrSign
				}
				if err := token.Verify(r, x, 5); err != want {
					t.Errorf("key %d, ring from %d to %d: %d, want %d", key, oldest, newest, err, want)
				}
			}
		}
	}
}

func TestP6_3Times(t *testing.T) {
	r := api.Ring{Root: []byte("k"), Oldest: 1, Newest: 1}
	for _, x := range goodTokens() {
		x.Key = 1
		x = librarySigned("k", x)
		for _, now := range []uint64{0, 1, x.Born - 1, x.Born, x.Born + 1, x.Until - 1, x.Until, x.Until + 1, api.MaxCount, api.MaxCount + 1, x.Born | 1<<63, math.MaxInt64, math.MaxUint64} {
			want := api.ErrStale
			if x.Born <= now && now < x.Until {
				want = api.OK
			}
			if err := token.Verify(r, x, now); err != want {
				t.Errorf("%d to %d, at %d: %d", x.Born, x.Until, now, err)
			}
		}
	}
}

// The first error that applies: what may not be, then what is not signed, then what is stale.
func TestP6_3Order(t *testing.T) {
	good := api.Ring{Root: []byte("k"), Oldest: 2, Newest: 3}
	signed := librarySigned("k", with(func(t *api.Token) { t.Key = 2 }))
	unsigned := signed
	unsigned.Mac[31] ^= 1
	gone := librarySigned("k", with(func(t *api.Token) { t.Key = 1 }))
	coming := librarySigned("k", with(func(t *api.Token) { t.Key = 4 }))
	for _, now := range []uint64{0, 4, 5, 100, 205, math.MaxUint64} {
		for _, r := range badRings() {
			for _, x := range []api.Token{signed, unsigned, gone, {}, librarySigned(string(r.Root), signed)} {
				if err := token.Verify(r, x, now); err != api.ErrArg {
					t.Errorf("the ring %+v, at %d: %d", r, now, err)
				}
			}
		}
		for _, x := range badTokens() {
			for _, x := range []api.Token{x, librarySigned("k", x)} {
				if err := token.Verify(good, x, now); err != api.ErrArg {
					t.Errorf("%.300q, at %d: %d", fmt.Sprintf("%+v", x), now, err)
				}
			}
		}
		for _, x := range []api.Token{unsigned, gone, coming} {
			if err := token.Verify(good, x, now); err != api.ErrSign {
				t.Errorf("%+v, at %d: %d", x, now, err)
			}
		}
	}
}

// Fresh asks for the times alone, and reckons them exactly.
func TestP6_3Fresh(t *testing.T) {
	var times []uint64
	for _, x := range []uint64{0, 5, 1000, api.MaxCount, 1 << 63, math.MaxUint64} {
		for _, y := range []uint64{0, 1, 2, 98, 99, 100, 101, 199, 200, 201} {
			times = append(times, x+y, x-y)
		}
	}
	fresh := 0
	for _, born := range times {
		end, beyond := bits.Add64(born, 100, 0)
		for _, now := range times {
			want := now >= born && (beyond == 1 || now < end)
			for _, x := range []api.Token{{Born: born}, with(func(t *api.Token) { t.Born, t.Until = born, born+1 }), with(func(t *api.Token) { t.Born, t.Until = born, math.MaxUint64 })} {
				if got := token.Fresh(x, now); got != want {
					t.Errorf("born %d, at %d: %v", born, now, got)
				}
			}
			if want {
				fresh++
			}
		}
	}
	if fresh < 100 || fresh > len(times)*len(times)/2 {
		t.Errorf("%d of %d are fresh: not both often", fresh, len(times)*len(times))
	}
}

// A token verifies at each tick from its Born to ahead of its Until, and is fresh for the first 100 of them.
func TestP6_7GoodTillItEnds(t *testing.T) {
	for _, born := range []uint64{0, 1, 5, 1 << 40, api.MaxCount - 200} {
		for _, r := range goodRings() {
			x, err := token.Issue(r, web, 7, 2, 9, born)
			if err != api.OK {
				t.Fatalf("%+v, at %d: %d", r, born, err)
			}
			for tick := range uint64(210) {
				want := api.OK
				if tick >= 200 {
					want = api.ErrStale
				}
				if err := token.Verify(r, x, born+tick); err != want || token.Fresh(x, born+tick) != (tick < 100) {
					t.Fatalf("%+v, %d ticks behind %d: %d", r, tick, born, err)
				}
			}
			for now := born - min(born, 5); now < born; now++ {
				if err := token.Verify(r, x, now); err != api.ErrStale || token.Fresh(x, now) {
					t.Errorf("%+v, at %d, ahead of %d: %d", r, now, born, err)
				}
			}
		}
	}
}

// While rings are rotated and retired, a token verifies till its own key is gone.
func TestP6_7WhileItsKeyCounts(t *testing.T) {
	rnd := rand.New(rand.NewSource(1))
	for range 100 {
		r := api.Ring{Root: probe.Bytes(rnd.Int63(), 1+rnd.Intn(64)), Oldest: 1, Newest: 1}
		var issued []api.Token
		for now := range uint64(40) {
			x, err := token.Issue(r, web, 1+now, 2, 9, now)
			if err != api.OK {
				t.Fatal(err)
			}
			issued = append(issued, x)
			turn := token.Rotate
			if rnd.Intn(2) == 0 {
				turn = token.Retire
			}
			if next, err := turn(r); err == api.OK {
				r = next
			}
			for _, x := range issued {
				want := api.OK
				if x.Key < r.Oldest {
					want = api.ErrSign
				}
				if err := token.Verify(r, x, now); err != want {
					t.Fatalf("key %d, ring from %d to %d: %d", x.Key, r.Oldest, r.Newest, err)
				}
			}
		}
	}
}

// Every bit of a mac counts, and so do several at once.
func TestP6_8Mac(t *testing.T) {
	rnd := rand.New(rand.NewSource(2))
	for _, r := range goodRings() {
		x, err := token.Issue(r, web, 7, 2, 9, 5)
		if err != api.OK {
			t.Fatal(err)
		}
		check := func(told string, m [32]byte) {
			y := x
			y.Mac = m
			if err := token.Verify(r, y, 5); err != api.ErrSign {
				t.Errorf("%+v, %s: %d", r, told, err)
			}
		}
		for i := range 256 {
			m := x.Mac
			m[i/8] ^= 1 << (i % 8)
			check(fmt.Sprintf("bit %d", i), m)
			j := (i + 1 + rnd.Intn(255)) % 256
			m[j/8] ^= 1 << (j % 8)
			check(fmt.Sprintf("bits %d and %d", i, j), m)
		}
		turned := x.Mac
		for i := range turned {
			turned[i] ^= 0xff
		}
		check("all bits", turned)
		check("no bits", [32]byte{})
		for i := range 31 {
			m := x.Mac
			m[i] ^= 0x55
			m[i+1] ^= 0x55
			check(fmt.Sprintf("bytes %d and %d, likewise", i, i+1), m)
			m = x.Mac
			m[i]++
			m[i+1]--
			check(fmt.Sprintf("bytes %d and %d, to one sum", i, i+1), m)
		}
	}
}
