package addr_test

import (
	"math"
	"math/rand"
	"net/netip"
	"strconv"
	"strings"
	"testing"

	"gatepost/addr"
	"gatepost/api"
	"gatepost/probe"
)

// someAddrs are addresses at their edges: those of each byte at each place, those of one bit more or less, and some between.
func someAddrs() []uint32 {
	l := []uint32{0, 1, 0x0a000102, 0x7fffffff, math.MaxUint32 - 1, math.MaxUint32}
	for bit := range 32 {
		x := uint32(1) << bit
		l = append(l, x-1, x, x+1, ^x)
	}
	for place := range 4 {
		for x := range uint32(256) {
			l = append(l, x<<(8*place), 0x01020304&^(255<<(8*place))|x<<(8*place))
		}
	}
	r := rand.New(rand.NewSource(1))
	for range 1000 {
		l = append(l, r.Uint32())
	}
	return l
}

// libraryText answers an address as the library writes it.
func libraryText(a uint32) string {
	return netip.AddrFrom4([4]byte{byte(a >> 24), byte(a >> 16), byte(a >> 8), byte(a)}).String()
}

// libraryAddr answers the address that the library reads from s, and whether it is one of 32 bits.
func libraryAddr(s string) (uint32, bool) {
	x, err := netip.ParseAddr(s)
	if err != nil || !x.Is4() {
		return 0, false
	}
	b := x.As4()
	return uint32(b[0])<<24 | uint32(b[1])<<16 | uint32(b[2])<<8 | uint32(b[3]), true
}

// checkParse tells if s is read otherwise than the library reads it, and answers whether it is an address's text.
func checkParse(t *testing.T, s string) bool {
	t.Helper()
	want, ok := libraryAddr(s)
	wantErr := api.ErrForm
	if ok {
		wantErr = api.OK
	}
	if a, err := addr.Parse(s); a != want || err != wantErr {
		t.Errorf("Parse(%q): %#x, %d; want %#x, %d", s, a, err, want, wantErr)
	}
	return ok
}

// edited answers s with some bytes put in, taken out or changed; r says which.
func edited(r *rand.Rand, s string) string {
	return probe.Edited(s, "0123456789./ +-a\x00", r.Intn)
}

func TestP4_1Examples(t *testing.T) {
	if s := addr.Print(0x0a000102); s != "10.0.1.2" {
		t.Errorf("Print: %s", s)
	}
	if a, err := addr.Parse("10.0.1.2"); a != 0x0a000102 || err != api.OK {
		t.Errorf("Parse: %#x, %d", a, err)
	}
	for _, s := range []string{"10.0.01.2", "10.0.1"} {
		if a, err := addr.Parse(s); a != 0 || err != api.ErrForm {
			t.Errorf("Parse(%q): %#x, %d", s, a, err)
		}
	}
}

func TestP4_1Print(t *testing.T) {
	for a, want := range map[uint32]string{
		0:              "0.0.0.0",
		1:              "0.0.0.1",
		0x0a000000:     "10.0.0.0",
		0x01020304:     "1.2.3.4",
		0x09636409:     "9.99.100.9",
		0x7fffffff:     "127.255.255.255",
		0x80000000:     "128.0.0.0",
		math.MaxUint32: "255.255.255.255",
	} {
		if s := addr.Print(a); s != want {
			t.Errorf("Print(%#x): %s, want %s", a, s, want)
		}
	}
	for _, a := range someAddrs() {
		if s, want := addr.Print(a), libraryText(a); s != want {
			t.Errorf("Print(%#x): %s, want %s", a, s, want)
		}
	}
}

// Each number at each part's place: noughts, all bytes, and what is beyond them.
func TestP4_1ParseParts(t *testing.T) {
	for place := range 4 {
		for n := range 1100 {
			for _, noughts := range []string{"", "0", "00"} {
				parts := []string{"10", "0", "255", "2"}
				parts[place] = noughts + strconv.Itoa(n)
				ok := checkParse(t, strings.Join(parts, "."))
				if ok != (n <= 255 && noughts == "") {
					t.Fatalf("the library takes %q otherwise than the words", parts)
				}
			}
		}
	}
}

func TestP4_1ParseWrong(t *testing.T) {
	far := []string{
		"256", "260", "300", "999", "1000", "2550", "65536", "4294967296", "4294967298", "18446744073709551616", "18446744073709551618",
		"340282366920938463463374607431768211458", strings.Repeat("9", 1000), strings.Repeat("0", 1000), strings.Repeat("0", 1000) + "2",
		"2" + strings.Repeat("0", 1000), "", "00", "02", "+2", "-2", "-0", "+0", " 2", "2 ", "\t2", "2\n", "\x002", "2\x00", "a", "0x2", "2a", "1e0", "1_0",
		"\xb2", "\u0662", "\uff12", "2,", "2:", "2/", "2/8",
	}
	for _, part := range far {
		for place := range 4 {
			parts := []string{"10", "0", "1", "2"}
			parts[place] = part
			if checkParse(t, strings.Join(parts, ".")) {
				t.Errorf("the library takes %q", parts)
			}
		}
	}
	for _, s := range []string{
		"", " ", ".", "..", "...", "....", "0", "10", "167772418", "10.0", "10.0.1", "10.0.1.", ".0.1.2", "10..1.2", "10.0.1.2.", ".10.0.1.2", "10.0.1.2.3",
		"10.0.1..2", "10.0.1.2..", "10.0.1.2.3.4.5", "10.0.1.2/32", "10,0,1,2", "10.0.1,2", "10 0 1 2", "10. 0.1.2", "10.0.1.2%2", "::", "::1", "::ffff:10.0.1.2", "1:2:3:4",
		strings.Repeat(".", 1000), strings.Repeat("1.", 1000), strings.Repeat("1", 1000), "1.2.3" + strings.Repeat(".", 1000), "nobody",
	} {
		if checkParse(t, s) {
			t.Errorf("the library takes %q", s)
		}
	}
}

// Every byte, at every place of texts, put in or in the place of another one.
func TestP4_1ParseEachByte(t *testing.T) {
	for _, s := range []string{"10.0.1.2", "0.0.0.0", "255.255.255.255", "1.22.133.244"} {
		for near := range probe.Near(s) {
			checkParse(t, near)
		}
	}
}

func TestP4_1ParseEdited(t *testing.T) {
	r := rand.New(rand.NewSource(2))
	fine := 0
	for range 50000 {
		if checkParse(t, edited(r, libraryText(r.Uint32()>>r.Intn(32)))) {
			fine++
		}
	}
	if fine < 10000 || fine > 40000 {
		t.Errorf("%d of 50000 texts are addresses: not both often", fine)
	}
}

func TestP4_1MayPort(t *testing.T) {
	for n, want := range map[int]bool{
		math.MinInt: false, -1 << 32: false, -65536: false, -65535: false, -1: false, 0: false,
		1: true, 2: true, 80: true, 32767: true, 32768: true, 65534: true, 65535: true,
		65536: false, 65537: false, 1 << 17: false, 1<<31 - 1: false, 1 << 31: false, 1 << 32: false, 1<<32 + 80: false, math.MaxInt - 1: false, math.MaxInt: false,
	} {
		if addr.MayPort(n) != want {
			t.Errorf("MayPort(%d): %v", n, !want)
		}
	}
	ports := 0
	for n := -70000; n < 140000; n++ {
		if addr.MayPort(n) {
			ports++
		}
	}
	if ports != 65535 {
		t.Errorf("%d ports", ports)
	}
}

func TestP4_6Addresses(t *testing.T) {
	seen := map[string]bool{}
	l := someAddrs()
	for _, a := range l {
		s := addr.Print(a)
		seen[s] = true
		if back, err := addr.Parse(s); back != a || err != api.OK {
			t.Errorf("%#x: %s, %#x, %d", a, s, back, err)
		}
	}
	different := map[uint32]bool{}
	for _, a := range l {
		different[a] = true
	}
	if len(seen) != len(different) {
		t.Errorf("%d addresses, %d texts", len(different), len(seen))
	}
}

// What is parsed is what is printed: no text but that.
func TestP4_6AddressTexts(t *testing.T) {
	r := rand.New(rand.NewSource(3))
	for range 50000 {
		s := edited(r, addr.Print(r.Uint32()>>r.Intn(32)))
		if a, err := addr.Parse(s); err == api.OK && addr.Print(a) != s {
			t.Errorf("%q is parsed as that of %s", s, addr.Print(a))
		}
	}
}
