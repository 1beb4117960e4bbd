package addr_test

import (
	"fmt"
	"math"
	"math/rand"
	"net/netip"
	"slices"
	"strconv"
	"strings"
	"testing"

	"gatepost/addr"
	"gatepost/api"
	"gatepost/probe"
)

var (
	all     = api.Cidr{Addr: 0, Bits: 0}
	ten     = api.Cidr{Addr: 0x0a000000, Bits: 8}
	lastOne = api.Cidr{Addr: math.MaxUint32, Bits: 32}
)

// count answers how many addresses a net of so many bits, 0 to 32, has.
func count(bits int) uint64 {
	n := uint64(1)
	for range 32 - bits {
		n *= 2
	}
	return n
}

// netOf answers the net of so many bits, 0 to 32, in which the address is.
func netOf(a uint32, bits int) api.Cidr {
	return api.Cidr{Addr: uint32(uint64(a) / count(bits) * count(bits)), Bits: bits}
}

// wrongBits are those that no net has.
func wrongBits() []int {
	return []int{math.MinInt, math.MinInt + 1, -1 << 32, -32, -31, -8, -2, -1, 33, 34, 40, 63, 64, 65, 255, 256, 256 + 8, 1 << 31, 1 << 32, 1<<32 + 8, math.MaxInt - 1, math.MaxInt}
}

// goodNets are nets that may be, of all numbers of bits, the same one at times more than once.
func goodNets() []api.Cidr {
	var l []api.Cidr
	for bits := range 33 {
		for _, a := range []uint32{0, 0x0a000102, 0x0a800000, 0x55555555, 0x7fffffff, 0x80000000, 0xaaaaaaaa, math.MaxUint32} {
			l = append(l, netOf(a, bits))
		}
	}
	return l
}

// badNets are nets that may not be: by their bits, or by a bit of Addr behind the first ones.
func badNets() []api.Cidr {
	var l []api.Cidr
	for _, bits := range wrongBits() {
		for _, a := range []uint32{0, 1, 0x0a000000, 0x80000000, math.MaxUint32} {
			l = append(l, api.Cidr{Addr: a, Bits: bits})
		}
	}
	for bits := range 32 {
		for _, first := range []uint32{0, 0x0a000102, math.MaxUint32} {
			for low := range 32 - bits {
				c := netOf(first, bits)
				c.Addr |= 1 << low
				l = append(l, c)
			}
		}
		l = append(l, api.Cidr{Addr: math.MaxUint32, Bits: bits})
	}
	return l
}

// span is a net's addresses, from the first one up to the one behind the last one.
type span struct{ from, to uint64 }

func spanOf(c api.Cidr) span {
	return span{uint64(c.Addr), uint64(c.Addr) + count(c.Bits)}
}

func (s span) has(a uint32) bool { return s.from <= uint64(a) && uint64(a) < s.to }

// around answers the addresses at the net's ends, on both sides, and some others.
func around(c api.Cidr) []uint32 {
	s := spanOf(c)
	first, last := uint32(s.from), uint32(s.to-1)
	l := []uint32{0, 0x0a000102, 0x7fffffff, 0x80000000, math.MaxUint32, first - 1, first, first + 1, last - 1, last, last + 1}
	for bit := range 32 {
		l = append(l, first^1<<bit)
	}
	return l
}

func TestP4_2Examples(t *testing.T) {
	if !addr.In(ten, 0x0a090909) || addr.In(ten, 0x0b000000) {
		t.Error("In 10.0.0.0/8")
	}
	l, ok := addr.Halves(ten)
	if !ok || !slices.Equal(l, []api.Cidr{{Addr: 0x0a000000, Bits: 9}, {Addr: 0x0a800000, Bits: 9}}) {
		t.Errorf("Halves of 10.0.0.0/8: %v, %v", l, ok)
	}
}

func TestP4_2Mask(t *testing.T) {
	for bits, want := range map[int]uint32{0: 0, 1: 0x80000000, 8: 0xff000000, 9: 0xff800000, 31: 0xfffffffe, 32: math.MaxUint32} {
		if m := addr.Mask(bits); m != want {
			t.Errorf("Mask(%d): %#x", bits, m)
		}
	}
	for bits := range 33 {
		text := strings.Repeat("1", bits) + strings.Repeat("0", 32-bits)
		if m := addr.Mask(bits); fmt.Sprintf("%032b", m) != text {
			t.Errorf("Mask(%d): %032b", bits, m)
		}
	}
	for _, bits := range wrongBits() {
		want := uint32(math.MaxUint32)
		if bits < 0 {
			want = 0
		}
		if m := addr.Mask(bits); m != want {
			t.Errorf("Mask(%d): %#x", bits, m)
		}
	}
}

func TestP4_2May(t *testing.T) {
	for _, c := range goodNets() {
		if !addr.May(c) {
			t.Errorf("%#x, %d bits: may not be", c.Addr, c.Bits)
		}
	}
	for _, c := range badNets() {
		if addr.May(c) {
			t.Errorf("%#x, %d bits: may be", c.Addr, c.Bits)
		}
	}
}

func TestP4_2In(t *testing.T) {
	for _, c := range goodNets() {
		for _, a := range around(c) {
			if want := spanOf(c).has(a); addr.In(c, a) != want {
				t.Errorf("In(%#x, %d bits, %#x): %v", c.Addr, c.Bits, a, !want)
			}
		}
	}
	for _, c := range badNets() {
		for _, a := range []uint32{0, 1, c.Addr - 1, c.Addr, c.Addr + 1, c.Addr &^ 0xff, c.Addr &^ 0xffffff, math.MaxUint32} {
			if addr.In(c, a) {
				t.Errorf("In(%#x, %d bits, %#x), of a net that may not be", c.Addr, c.Bits, a)
			}
		}
	}
}

func TestP4_2Covers(t *testing.T) {
	good, bad := goodNets(), badNets()
	for _, c := range good {
		for _, d := range good {
			s, x := spanOf(c), spanOf(d)
			if want := s.from <= x.from && x.to <= s.to; addr.Covers(c, d) != want {
				t.Errorf("Covers(%#x, %d bits; %#x, %d bits): %v", c.Addr, c.Bits, d.Addr, d.Bits, !want)
			}
		}
	}
	for _, c := range bad {
		for _, d := range []api.Cidr{all, ten, {Addr: c.Addr, Bits: 32}, lastOne, c} {
			if addr.Covers(c, d) || addr.Covers(d, c) {
				t.Errorf("%#x, %d bits, may not be, and covers, or is covered: %#x, %d bits", c.Addr, c.Bits, d.Addr, d.Bits)
			}
		}
	}
}

// A net, itself, its halves, the nets around it and beside it.
func TestP4_2CoversFamily(t *testing.T) {
	for bits := 1; bits < 32; bits++ {
		c, whole := netOf(0x0a0f0102, bits), netOf(0x0a0f0102, bits-1)
		low, high := netOf(c.Addr, bits+1), netOf(uint32(spanOf(c).to-1), bits+1)
		beside := netOf(c.Addr^1<<(32-bits), bits)
		for i, x := range []struct {
			c, d api.Cidr
			want bool
		}{
			{c, c, true}, {c, low, true}, {c, high, true}, {whole, c, true}, {all, c, true}, {whole, beside, true},
			{low, c, false}, {high, c, false}, {c, whole, false}, {low, high, false}, {high, low, false}, {c, beside, false}, {beside, c, false}, {c, all, false}, {c, netOf(beside.Addr, 32), false},
		} {
			if addr.Covers(x.c, x.d) != x.want {
				t.Errorf("%d bits, case %d: Covers(%v, %v): %v", bits, i, x.c, x.d, !x.want)
			}
		}
	}
}

func TestP4_2Ends(t *testing.T) {
	for _, x := range []struct {
		c           api.Cidr
		first, last uint32
	}{
		{all, 0, math.MaxUint32},
		{ten, 0x0a000000, 0x0affffff},
		{lastOne, math.MaxUint32, math.MaxUint32},
		{api.Cidr{Bits: 32}, 0, 0},
		{api.Cidr{Bits: 31}, 0, 1},
		{api.Cidr{Addr: 1 << 31, Bits: 1}, 1 << 31, math.MaxUint32},
	} {
		first, ok := addr.First(x.c)
		last, ok2 := addr.Last(x.c)
		if first != x.first || last != x.last || !ok || !ok2 {
			t.Errorf("%v: %#x, %v; %#x, %v", x.c, first, ok, last, ok2)
		}
	}
	for _, c := range goodNets() {
		first, ok := addr.First(c)
		last, ok2 := addr.Last(c)
		if s := spanOf(c); uint64(first) != s.from || uint64(last)+1 != s.to || !ok || !ok2 {
			t.Errorf("%#x, %d bits: %#x, %v; %#x, %v", c.Addr, c.Bits, first, ok, last, ok2)
		}
	}
	for _, c := range badNets() {
		first, ok := addr.First(c)
		last, ok2 := addr.Last(c)
		if first != 0 || last != 0 || ok || ok2 {
			t.Errorf("%#x, %d bits, may not be: %#x, %v; %#x, %v", c.Addr, c.Bits, first, ok, last, ok2)
		}
	}
}

func TestP4_2Halves(t *testing.T) {
	for _, c := range goodNets() {
		l, ok := addr.Halves(c)
		if c.Bits == 32 {
			if ok || len(l) != 0 {
				t.Errorf("%#x, 32 bits: halves %v, %v", c.Addr, l, ok)
			}
			continue
		}
		want := []api.Cidr{{Addr: c.Addr, Bits: c.Bits + 1}, {Addr: c.Addr + uint32(count(c.Bits+1)), Bits: c.Bits + 1}}
		if !ok || !slices.Equal(l, want) {
			t.Errorf("%#x, %d bits: halves %v, %v; want %v", c.Addr, c.Bits, l, ok, want)
		}
	}
	for _, c := range badNets() {
		if l, ok := addr.Halves(c); ok || len(l) != 0 {
			t.Errorf("%#x, %d bits, may not be: halves %v, %v", c.Addr, c.Bits, l, ok)
		}
	}
}

// libraryNet answers the net that the library reads from s, and whether it is one of addresses of 32 bits, and may be.
func libraryNet(s string) (api.Cidr, bool) {
	x, err := netip.ParsePrefix(s)
	if err != nil || !x.Addr().Is4() || x != x.Masked() {
		return api.Cidr{}, false
	}
	a, ok := libraryAddr(x.Addr().String())
	return api.Cidr{Addr: a, Bits: x.Bits()}, ok
}

// checkParseNet tells if s is read otherwise than the library reads it, and answers whether it is a net's text.
func checkParseNet(t *testing.T, s string) bool {
	t.Helper()
	want, ok := libraryNet(s)
	wantErr := api.ErrForm
	if ok {
		wantErr = api.OK
	}
	if c, err := addr.ParseNet(s); c != want || err != wantErr {
		t.Errorf("ParseNet(%q): %v, %d; want %v, %d", s, c, err, want, wantErr)
	}
	return ok
}

func TestP4_3Examples(t *testing.T) {
	for s, want := range map[string]api.Cidr{"10.0.0.0/8": ten, "0.0.0.0/0": all, "255.255.255.255/32": lastOne} {
		if c, err := addr.ParseNet(s); c != want || err != api.OK {
			t.Errorf("ParseNet(%q): %v, %d", s, c, err)
		}
		if got := addr.PrintNet(want); got != s {
			t.Errorf("PrintNet(%v): %q", want, got)
		}
	}
	if c, err := addr.ParseNet("10.0.0.1/8"); c != (api.Cidr{}) || err != api.ErrForm {
		t.Errorf("ParseNet of 10.0.0.1/8: %v, %d", c, err)
	}
}

func TestP4_3PrintNet(t *testing.T) {
	for _, c := range goodNets() {
		if s, want := addr.PrintNet(c), libraryText(c.Addr)+"/"+strconv.Itoa(c.Bits); s != want {
			t.Errorf("PrintNet(%#x, %d bits): %q", c.Addr, c.Bits, s)
		}
	}
	for _, c := range badNets() {
		if s := addr.PrintNet(c); s != "" {
			t.Errorf("PrintNet(%#x, %d bits), which may not be: %q", c.Addr, c.Bits, s)
		}
	}
}

// Each number of bits behind addresses that end in ever more noughts, and noughts ahead of it.
func TestP4_3ParseNetBits(t *testing.T) {
	for noughts := range 33 {
		for _, a := range []uint32{0, math.MaxUint32} {
			c := netOf(a, 32-noughts)
			for bits := -40; bits < 300; bits++ {
				ok := checkParseNet(t, libraryText(c.Addr)+"/"+strconv.Itoa(bits))
				if want := bits >= 0 && bits <= 32 && (a == 0 || bits >= 32-noughts); ok != want {
					t.Fatalf("the library takes %#x, %d bits, otherwise than the words", c.Addr, bits)
				}
				if checkParseNet(t, libraryText(c.Addr)+"/0"+strconv.Itoa(bits)) {
					t.Fatalf("the library takes %#x, 0%d bits", c.Addr, bits)
				}
			}
		}
	}
	for _, c := range badNets() {
		if checkParseNet(t, libraryText(c.Addr)+"/"+strconv.Itoa(c.Bits)) {
			t.Errorf("the library takes %#x, %d bits", c.Addr, c.Bits)
		}
	}
}

func TestP4_3ParseNetWrong(t *testing.T) {
	for _, s := range []string{
		"", "/", "//", "8", "/8", "10.0.0.0", "10.0.0.0/", "10.0.0.0//", "10.0.0.0//8", "/10.0.0.0/8", "10.0.0.0/8/", "10.0.0.0/8/8", "10.0.0.0/8/9", "8/10.0.0.0", "0.0.0.0/0/0",
		"10.0.0.0/33", "10.0.0.0/032", "10.0.0.0/08", "10.0.0.0/00", "0.0.0.0/00", "0.0.0.0/-0", "10.0.0.0/+8", "10.0.0.0/-8", "10.0.0.0/ 8", "10.0.0.0/8 ", "10.0.0.0 /8", " 10.0.0.0/8",
		"10.0.0.0/8\x00", "10.0.0.0/8\n", "10.0.0.0/a", "10.0.0.0/0x8", "10.0.0.0/8.0", "10.0.0.0/255.0.0.0", "10.0.0.0/4294967304", "10.0.0.0/18446744073709551624",
		"10.0.0.0/" + strings.Repeat("9", 1000), "10.0.0.0/" + strings.Repeat("0", 1000) + "8", "10.0.0.0/8" + strings.Repeat("0", 1000),
		"10.0.0/8", "10/8", "10.0.0.0.0/8", "010.0.0.0/8", "10.0.00.0/8", "10.0.0.256/32", "10..0.0/8", "+10.0.0.0/8", "10.0.0.1/31", "0.0.0.1/0", "128.0.0.0/0",
		"::/0", "::/8", "::ffff:10.0.0.0/104", "10.0.0.0\\8", "10.0.0.0:8", strings.Repeat("/", 1000), "\u0661\u0660.0.0.0/8", "10.0.0.0/\u0668",
	} {
		if checkParseNet(t, s) {
			t.Errorf("the library takes %q", s)
		}
	}
}

func TestP4_3ParseNetEdited(t *testing.T) {
	r := rand.New(rand.NewSource(4))
	fine := 0
	for range 50000 {
		c := netOf(r.Uint32(), r.Intn(33))
		if checkParseNet(t, edited(r, libraryText(c.Addr)+"/"+strconv.Itoa(c.Bits))) {
			fine++
		}
	}
	if fine < 10000 || fine > 40000 {
		t.Errorf("%d of 50000 texts are nets: not both often", fine)
	}
}

func TestP4_3ParseNetEachByte(t *testing.T) {
	for _, s := range []string{"10.0.0.0/8", "0.0.0.0/0", "255.255.255.255/32", "128.0.0.0/1", "10.0.1.2/31"} {
		for near := range probe.Near(s) {
			checkParseNet(t, near)
		}
	}
}

// The halves that are answered are the caller's own.
func TestP4_5HalvesAreNew(t *testing.T) {
	first, _ := addr.Halves(ten)
	second, _ := addr.Halves(ten)
	want := slices.Clone(first)
	for i := range first {
		first[i] = lastOne
	}
	_ = append(first[:cap(first)], lastOne)
	third, _ := addr.Halves(ten)
	if !slices.Equal(second, want) || !slices.Equal(third, want) {
		t.Errorf("behind a change of what was answered: %v, %v", second, third)
	}
}

func TestP4_6Nets(t *testing.T) {
	r := rand.New(rand.NewSource(5))
	l := goodNets()
	for range 5000 {
		l = append(l, netOf(r.Uint32(), r.Intn(33)))
	}
	for _, c := range l {
		s := addr.PrintNet(c)
		if back, err := addr.ParseNet(s); back != c || err != api.OK {
			t.Errorf("%#x, %d bits: %q, %v, %d", c.Addr, c.Bits, s, back, err)
		}
	}
}

func TestP4_6NetTexts(t *testing.T) {
	r := rand.New(rand.NewSource(6))
	for range 50000 {
		s := edited(r, addr.PrintNet(netOf(r.Uint32(), r.Intn(33))))
		if c, err := addr.ParseNet(s); err == api.OK && addr.PrintNet(c) != s {
			t.Errorf("%q is parsed as that of %s", s, addr.PrintNet(c))
		}
	}
}

func TestP4_7BetweenItsEnds(t *testing.T) {
	for _, c := range goodNets() {
		first, _ := addr.First(c)
		last, _ := addr.Last(c)
		l, _ := addr.Halves(c)
		for _, a := range around(c) {
			in := addr.In(c, a)
			if in != (first <= a && a <= last) {
				t.Errorf("In(%#x, %d bits, %#x): %v, from %#x to %#x", c.Addr, c.Bits, a, in, first, last)
			}
			if c.Bits == 32 {
				continue
			}
			low, high := addr.In(l[0], a), addr.In(l[1], a)
			if low && high || in != (low || high) {
				t.Errorf("In(%#x, %d bits, %#x): %v, in its halves %v, %v", c.Addr, c.Bits, a, in, low, high)
			}
		}
	}
}

func TestP4_7CoversWhatThatCovers(t *testing.T) {
	r := rand.New(rand.NewSource(7))
	chains := 0
	for range 100000 {
		a := r.Uint32()
		c, d, e := netOf(a, r.Intn(33)), netOf(a^1<<r.Intn(32), r.Intn(33)), netOf(a^1<<r.Intn(32), r.Intn(33))
		if !addr.Covers(c, d) || !addr.Covers(d, e) {
			continue
		}
		chains++
		if !addr.Covers(c, e) {
			t.Errorf("%v covers %v, that covers %v", c, d, e)
		}
	}
	if chains < 1000 {
		t.Errorf("%d nets that cover what covers: too few", chains)
	}
}

func TestP4_9CoverOrApart(t *testing.T) {
	l := goodNets()
	for _, c := range l {
		for _, d := range l {
			s, x := spanOf(c), spanOf(d)
			apart := s.to <= x.from || x.to <= s.from
			covers := addr.Covers(c, d) || addr.Covers(d, c)
			if apart == covers {
				t.Errorf("%v and %v: apart %v, one covers the other one %v", c, d, apart, covers)
			}
			for _, a := range []uint32{c.Addr, d.Addr, uint32(s.to - 1), uint32(x.to - 1)} {
				if apart && addr.In(c, a) && addr.In(d, a) {
					t.Errorf("%v and %v are apart, and have %#x", c, d, a)
				}
			}
		}
	}
}
