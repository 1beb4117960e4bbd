package sha_test

import (
	"bytes"
	"crypto/sha256"
	"encoding"
	"encoding/binary"
	"encoding/hex"
	"math/big"
	"math/rand"
	"slices"
	"testing"

	"gatepost/api"
	"gatepost/probe"
	"gatepost/sha"
)

// The standard's own tables (FIPS 180-4, 5.3.3 and 4.2.2).
var firstState = [8]uint32{
	0x6a09e667, 0xbb67ae85, 0x3c6ef372, 0xa54ff53a, 0x510e527f, 0x9b05688c, 0x1f83d9ab, 0x5be0cd19,
}

var standardKeys = [64]uint32{
	0x428a2f98, 0x71374491, 0xb5c0fbcf, 0xe9b5dba5, 0x3956c25b, 0x59f111f1, 0x923f82a4, 0xab1c5ed5,
	0xd807aa98, 0x12835b01, 0x243185be, 0x550c7dc3, 0x72be5d74, 0x80deb1fe, 0x9bdc06a7, 0xc19bf174,
	0xe49b69c1, 0xefbe4786, 0x0fc19dc6, 0x240ca1cc, 0x2de92c6f, 0x4a7484aa, 0x5cb0a9dc, 0x76f988da,
	0x983e5152, 0xa831c66d, 0xb00327c8, 0xbf597fc7, 0xc6e00bf3, 0xd5a79147, 0x06ca6351, 0x14292967,
	0x27b70a85, 0x2e1b2138, 0x4d2c6dfc, 0x53380d13, 0x650a7354, 0x766a0abb, 0x81c2c92e, 0x92722c85,
	0xa2bfe8a1, 0xa81a664b, 0xc24b8b70, 0xc76c51a3, 0xd192e819, 0xd6990624, 0xf40e3585, 0x106aa070,
	0x19a4c116, 0x1e376c08, 0x2748774c, 0x34b0bcb5, 0x391c0cb3, 0x4ed8aa4a, 0x5b9cca4f, 0x682e6ff3,
	0x748f82ee, 0x78a5636f, 0x84c87814, 0x8cc70208, 0x90befffa, 0xa4506ceb, 0xbef9a3f7, 0xc67178f2,
}

// someState answers a state that hangs on the seed alone.
func someState(seed int64) [8]uint32 {
	r := rand.New(rand.NewSource(seed))
	var h [8]uint32
	for i := range h {
		h[i] = r.Uint32()
	}
	return h
}

// stateBehind is the library's own: the state behind the whole blocks of b, taken in h; what is no whole block is left out.
func stateBehind(t *testing.T, h [8]uint32, b []byte) [8]uint32 {
	t.Helper()
	saved := []byte("sha\x03")
	for _, x := range h {
		saved = binary.BigEndian.AppendUint32(saved, x)
	}
	saved = append(saved, make([]byte, 64+8)...)
	d := sha256.New()
	if err := d.(encoding.BinaryUnmarshaler).UnmarshalBinary(saved); err != nil {
		t.Fatal(err)
	}
	d.Write(b[:len(b)/64*64])
	saved, err := d.(encoding.BinaryMarshaler).MarshalBinary()
	if err != nil {
		t.Fatal(err)
	}
	for i := range h {
		h[i] = binary.BigEndian.Uint32(saved[4+4*i:])
	}
	return h
}

// endOf is the end of n bytes, put together byte by byte and reckoned with wide numbers.
func endOf(n uint64) []byte {
	total := new(big.Int).SetUint64(n)
	end := []byte{128}
	for {
		reached := new(big.Int).Add(total, big.NewInt(int64(len(end))))
		if reached.Mod(reached, big.NewInt(64)).Int64() == 56 {
			break
		}
		end = append(end, 0)
	}
	count := new(big.Int).Mul(total, big.NewInt(8))
	count.Mod(count, new(big.Int).Lsh(big.NewInt(1), 64))
	return append(end, count.FillBytes(make([]byte, 8))...)
}

func stateBytes(h [8]uint32) (b [32]byte) {
	for i, x := range h {
		binary.BigEndian.PutUint32(b[4*i:], x)
	}
	return b
}

func sameSha(a, b api.Sha) bool {
	return a.H == b.H && a.N == b.N && bytes.Equal(a.Rest, b.Rest)
}

func TestP1_1FirstAndKeys(t *testing.T) {
	if h := sha.First(); h != firstState {
		t.Errorf("First: %08x", h)
	}
	if k := sha.Keys(); k != standardKeys {
		t.Errorf("Keys: %08x", k)
	}
}

// Of wide numbers: the floor of a root of p in 2^-32 has the whole part ahead of the root bits, and that part is below 8.
func TestP1_1RootBits(t *testing.T) {
	isRoot := func(root int64, p uint64, power int64) bool {
		scaled := new(big.Int).Lsh(new(big.Int).SetUint64(p), uint(32*power))
		exp := func(x int64) *big.Int { return new(big.Int).Exp(big.NewInt(x), big.NewInt(power), nil) }
		return exp(root).Cmp(scaled) <= 0 && exp(root+1).Cmp(scaled) > 0
	}
	check := func(what string, words []uint32, power int64) {
		p := int64(2)
		for i, w := range words {
			for !big.NewInt(p).ProbablyPrime(20) {
				p++
			}
			found := false
			for whole := range int64(8) {
				found = found || isRoot(whole<<32|int64(w), uint64(p), power)
			}
			if !found {
				t.Errorf("%s %d: %08x is not of the root of %d", what, i, w, p)
			}
			p++
		}
	}
	h, k := sha.First(), sha.Keys()
	check("First", h[:], 2)
	check("Keys", k[:], 3)
}

func TestP1_2Block(t *testing.T) {
	for seed := range int64(200) {
		h, b := someState(seed), probe.Bytes(seed+1000, 64)
		got, e := sha.Block(h, b)
		if want := stateBehind(t, h, b); got != want || e != api.OK {
			t.Errorf("seed %d: %08x, %v; want %08x", seed, got, e, want)
		}
	}
	var ones [8]uint32
	for i := range ones {
		ones[i] = 1<<32 - 1
	}
	for _, h := range [][8]uint32{{}, ones, sha.First()} {
		for _, fill := range []byte{0, 1, 128, 255} {
			b := bytes.Repeat([]byte{fill}, 64)
			got, e := sha.Block(h, b)
			if want := stateBehind(t, h, b); got != want || e != api.OK {
				t.Errorf("%08x, 64 bytes of %d: %08x, %v; want %08x", h, fill, got, e, want)
			}
		}
	}
}

// The standard's example of one block: "abc" and its end.
func TestP1_2BlockOfStandard(t *testing.T) {
	b := append([]byte("abc"), make([]byte, 61)...)
	b[3], b[63] = 128, 24
	h, e := sha.Block(sha.First(), b)
	want := [8]uint32{0xba7816bf, 0x8f01cfea, 0x414140de, 0x5dae2223, 0xb00361a3, 0x96177a9c, 0xb410ff61, 0xf20015ad}
	if h != want || e != api.OK {
		t.Errorf("%08x, %v", h, e)
	}
}

func TestP1_2BlockOfOtherLengths(t *testing.T) {
	long := probe.Bytes(1, 256)
	rows := [][]byte{nil, {}, long[:1], long[:32], long[:55], long[:56], long[:63], long[:63:63], long[:65], long[:128], long}
	for _, b := range rows {
		if h, e := sha.Block(sha.First(), b); e != api.ErrArg || h != [8]uint32{} {
			t.Errorf("%d bytes: %08x, %v", len(b), h, e)
		}
	}
	if _, e := sha.Block(sha.First(), long[:64]); e != api.OK {
		t.Errorf("64 bytes with room behind them: %v", e)
	}
}

func TestP1_3End(t *testing.T) {
	tests := []struct {
		n       uint64
		length  int
		counted string
	}{
		{0, 64, "0000000000000000"},
		{1, 63, "0000000000000008"},
		{31, 33, "00000000000000f8"},
		{32, 32, "0000000000000100"},
		{54, 10, "00000000000001b0"},
		{55, 9, "00000000000001b8"},
		{56, 72, "00000000000001c0"},
		{57, 71, "00000000000001c8"},
		{63, 65, "00000000000001f8"},
		{64, 64, "0000000000000200"},
		{65, 63, "0000000000000208"},
		{119, 9, "00000000000003b8"},
		{120, 72, "00000000000003c0"},
		{1<<32 + 55, 9, "00000008000001b8"},
		{0x0123456789abcdef, 17, "091a2b3c4d5e6f78"},
		{1<<61 - 1, 65, "fffffffffffffff8"},
		{1 << 61, 64, "0000000000000000"},
		{1<<61 + 55, 9, "00000000000001b8"},
		{1<<63 + 56, 72, "00000000000001c0"},
		{1<<64 - 9, 9, "ffffffffffffffb8"},
		{1<<64 - 8, 72, "ffffffffffffffc0"},
		{1<<64 - 1, 65, "fffffffffffffff8"},
	}
	for _, x := range tests {
		b := sha.End(x.n)
		if len(b) != x.length {
			t.Errorf("End(%d): %d bytes, want %d", x.n, len(b), x.length)
			continue
		}
		if want := "80" + hex.EncodeToString(make([]byte, x.length-9)) + x.counted; hex.EncodeToString(b) != want {
			t.Errorf("End(%d): %x, want %s", x.n, b, want)
		}
	}
}

func TestP1_3EndOfAny(t *testing.T) {
	r := rand.New(rand.NewSource(3))
	check := func(n uint64) {
		if got, want := sha.End(n), endOf(n); !bytes.Equal(got, want) {
			t.Errorf("End(%d): %x, want %x", n, got, want)
		}
	}
	for n := range uint64(300) {
		check(n)
		check(1<<61 + n)
		check(-n)
		check(r.Uint64() >> (n % 64))
	}
}

func TestP1_4OfStandard(t *testing.T) {
	tests := []struct {
		parts []string
		want  string
	}{
		{nil, "e3b0c44298fc1c149afbf4c8996fb92427ae41e4649b934ca495991b7852b855"},
		{[]string{""}, "e3b0c44298fc1c149afbf4c8996fb92427ae41e4649b934ca495991b7852b855"},
		{[]string{"ab", "c"}, "ba7816bf8f01cfea414140de5dae2223b00361a396177a9cb410ff61f20015ad"},
		{[]string{"abc"}, "ba7816bf8f01cfea414140de5dae2223b00361a396177a9cb410ff61f20015ad"},
		{[]string{"abcdbcdecdefdefgefghfghighijhijkijkljklmklmnlmnomnopnopq"}, "248d6a61d20638b8e5c026930c3e6039a33ce45964ff2167f6ecedd419db06c1"},
		{[]string{"abcdefghbcdefghicdefghijdefghijkefghijklfghijklmghijklmn", "hijklmnoijklmnopjklmnopqklmnopqrlmnopqrsmnopqrstnopqrstu"}, "cf5b16a778af8380036ce59e7b0492370b249b11e8f07a51afac45037afee9d1"},
	}
	for _, x := range tests {
		var parts [][]byte
		for _, p := range x.parts {
			parts = append(parts, []byte(p))
		}
		if b := sha.Of(parts...); hex.EncodeToString(b[:]) != x.want {
			t.Errorf("Of(%q): %x, want %s", x.parts, b, x.want)
		}
	}
	million := bytes.Repeat([]byte("a"), 1000000)
	if b := sha.Of(million); hex.EncodeToString(b[:]) != "cdc76e5c9914fb9281a1c7e284d73e67f1809a48a497200e046d39ccc7112cd0" {
		t.Errorf("Of a million of a: %x", b)
	}
}

func TestP1_4OfEachLength(t *testing.T) {
	b := probe.Bytes(4, 400)
	for n := range len(b) {
		if got, want := sha.Of(b[:n]), sha256.Sum256(b[:n]); got != want {
			t.Errorf("%d bytes: %x, want %x", n, got, want)
		}
	}
}

func TestP1_4OfNothing(t *testing.T) {
	none, abc := sha256.Sum256(nil), sha256.Sum256([]byte("abc"))
	if sha.Of() != none || sha.Of(nil) != none || sha.Of(nil, []byte{}, nil) != none || sha.Of([][]byte{}...) != none {
		t.Error("no parts, or parts of no bytes")
	}
	if sha.Of(nil, []byte("a"), []byte{}, []byte("bc"), nil) != abc {
		t.Error("parts of no bytes beside others")
	}
}

func TestP1_5New(t *testing.T) {
	if s := sha.New(); !sameSha(s, api.Sha{H: firstState}) {
		t.Errorf("%v", s)
	}
	if sha.Sum(sha.New()) != sha256.Sum256(nil) {
		t.Error("the sum of nothing written")
	}
}

// Each row is any Sha; what is written to it comes to what the words of the promise say.
func TestP1_5WriteToAny(t *testing.T) {
	counts := []uint64{0, 1, 55, 64, 1 << 61, 1<<64 - 1, 1<<64 - 64}
	for i, rest := range []int{0, 1, 9, 55, 56, 63, 64, 65, 127, 128, 200} {
		for j, more := range []int{0, 1, 8, 55, 63, 64, 65, 129} {
			s := api.Sha{H: someState(int64(i)), Rest: probe.Bytes(int64(i)+50, rest), N: counts[(i+j)%len(counts)]}
			b := probe.Bytes(int64(j)+90, more)
			all := slices.Concat(s.Rest, b)
			want := api.Sha{H: stateBehind(t, s.H, all), Rest: all[len(all)/64*64:], N: s.N + uint64(more)}
			if got := sha.Write(s, b); !sameSha(got, want) {
				t.Errorf("rest of %d, %d more: %v, want %v", rest, more, got, want)
			}
		}
	}
	if s := sha.Write(api.Sha{}, nil); !sameSha(s, api.Sha{}) {
		t.Errorf("nothing written to a Sha of noughts: %v", s)
	}
}

// N need not be the number of the bytes: the end is N's, and what is no whole block behind it is left out.
func TestP1_5SumOfAny(t *testing.T) {
	for i, rest := range []int{0, 1, 9, 54, 55, 56, 63, 64, 65, 119, 120, 128, 200} {
		for _, n := range []uint64{0, 1, 9, 54, 55, 56, 63, 64, 65, 200, 1<<61 - 1, 1 << 61, 1<<61 + 55, 1<<64 - 9, 1<<64 - 1} {
			s := api.Sha{H: someState(int64(i)), Rest: probe.Bytes(int64(i)+50, rest), N: n}
			want := stateBytes(stateBehind(t, s.H, slices.Concat(s.Rest, endOf(n))))
			if got := sha.Sum(s); got != want {
				t.Errorf("rest of %d, N %d: %x, want %x", rest, n, got, want)
			}
		}
	}
	h := someState(7)
	if got := sha.Sum(api.Sha{H: h, N: 55}); got != stateBytes(h) {
		t.Errorf("an end of 9 bytes alone is no block: %x, want the state as it was, %x", got, stateBytes(h))
	}
}

func TestP1_5SumGoesOn(t *testing.T) {
	s, b := sha.New(), probe.Bytes(6, 300)
	for i, x := range b {
		if got, want := sha.Sum(s), sha256.Sum256(b[:i]); got != want {
			t.Errorf("%d bytes: %x, want %x", i, got, want)
		}
		s = sha.Write(s, []byte{x})
		if s.N != uint64(i+1) || len(s.Rest) != (i+1)%64 {
			t.Errorf("%d bytes: N %d, a rest of %d", i+1, s.N, len(s.Rest))
		}
	}
}

func TestP1_6HandedInStays(t *testing.T) {
	for _, n := range []int{0, 1, 55, 56, 63, 64, 65, 130} {
		for _, more := range []int{0, 1, 63, 64, 130} {
			rest, restStays := probe.Guarded(probe.Bytes(1, n))
			b, bytesStay := probe.Guarded(probe.Bytes(2, more))
			h := someState(3)
			s := api.Sha{H: h, Rest: rest, N: 5}
			sha.Write(s, b)
			sha.Sum(s)
			sha.Block(h, rest)
			sha.Of(rest, b)
			sha.Of(b, nil, rest)
			if !restStays() || !bytesStay() || h != someState(3) || s.H != h || s.N != 5 || len(s.Rest) != n {
				t.Errorf("a rest of %d, %d more: what was handed in has changed", n, more)
			}
		}
	}
}

func TestP1_6RowOfPartsStays(t *testing.T) {
	mark := []byte("mark")
	row := [][]byte{[]byte("a"), nil, []byte("b"), mark, mark, mark}
	sha.Of(row[:3]...)
	for i, want := range []string{"a", "", "b", "mark", "mark", "mark"} {
		if string(row[i]) != want {
			t.Errorf("part %d: %q, want %q", i, row[i], want)
		}
	}
	if row[1] != nil {
		t.Error("a nil part is none any more")
	}
}

func TestP1_6AnswersAreNew(t *testing.T) {
	for _, n := range []int{0, 1, 10, 63, 64, 70, 140} {
		for _, more := range []int{0, 1, 10, 64, 70} {
			rest, restStays := probe.Guarded(probe.Bytes(1, n))
			b, bytesStay := probe.Guarded(probe.Bytes(2, more))
			s := api.Sha{H: someState(3), Rest: rest}
			first, second := sha.Write(s, b), sha.Write(s, b)
			want := slices.Clone(second.Rest)
			probe.Scrub(first.Rest)
			if !restStays() || !bytesStay() {
				t.Errorf("a rest of %d, %d more: the answer shares memory with what was handed in", n, more)
			}
			if !bytes.Equal(second.Rest, want) {
				t.Errorf("a rest of %d, %d more: two answers share memory", n, more)
			}
			probe.Scrub(rest)
			probe.Scrub(b)
			if !bytes.Equal(second.Rest, want) {
				t.Errorf("a rest of %d, %d more: the answer has changed with what was handed in", n, more)
			}
		}
	}
	probe.Scrub(sha.End(3))
	if !bytes.Equal(sha.End(3), endOf(3)) {
		t.Error("two ends share memory")
	}
}

// Two sums that go on from one do not write over one another.
func TestP1_6Branches(t *testing.T) {
	start := sha.Write(sha.New(), []byte("start"))
	left, right := sha.Write(start, []byte("left")), sha.Write(start, []byte("right"))
	if sha.Sum(left) != sha256.Sum256([]byte("startleft")) || sha.Sum(right) != sha256.Sum256([]byte("startright")) {
		t.Error("one branch has changed the other")
	}
	if sha.Sum(start) != sha256.Sum256([]byte("start")) {
		t.Error("a branch has changed what it went on from")
	}
}

func TestP1_7CutAnywhere(t *testing.T) {
	b := probe.Bytes(7, 200)
	want := sha256.Sum256(b)
	for i := range len(b) + 1 {
		if got := sha.Of(b[:i], b[i:]); got != want {
			t.Errorf("Of, cut at %d: %x, want %x", i, got, want)
		}
		if got := sha.Sum(sha.Write(sha.Write(sha.New(), b[:i]), b[i:])); got != want {
			t.Errorf("Write, cut at %d: %x, want %x", i, got, want)
		}
	}
}

func TestP1_7CutOften(t *testing.T) {
	r := rand.New(rand.NewSource(8))
	for seed := range int64(200) {
		b := probe.Bytes(seed, r.Intn(600))
		s := sha.New()
		var parts [][]byte
		for left := b; len(left) > 0; {
			n := r.Intn(min(len(left), 150) + 1)
			parts, s, left = append(parts, left[:n]), sha.Write(s, left[:n]), left[n:]
		}
		want := sha256.Sum256(b)
		if got := sha.Of(parts...); got != want {
			t.Errorf("seed %d: Of %d parts: %x, want %x", seed, len(parts), got, want)
		}
		if got := sha.Sum(s); got != want {
			t.Errorf("seed %d: Write %d times: %x, want %x", seed, len(parts), got, want)
		}
	}
}

func TestP1_8WholeBlocks(t *testing.T) {
	r := rand.New(rand.NewSource(9))
	check := func(n uint64) {
		if end := uint64(len(sha.End(n))); (n%64+end)%64 != 0 || end < 9 || end > 72 {
			t.Errorf("%d bytes, an end of %d", n, end)
		}
	}
	for n := range uint64(1000) {
		check(n)
		check(1<<61 - 500 + n)
		check(-n)
		check(r.Uint64())
	}
}

func TestP1_8EndsUnlike(t *testing.T) {
	r := rand.New(rand.NewSource(10))
	seen := map[string]uint64{}
	check := func(n uint64) {
		end := string(sha.End(n))
		if m, ok := seen[end]; ok && m != n {
			t.Errorf("%d and %d have one end", m, n)
		}
		seen[end] = n
	}
	for n := range uint64(1000) {
		check(n)
		check(1<<32 - 500 + n)
		check(1<<61 - 1 - n)
		check(r.Uint64() >> 3)
	}
	for bit := range 61 {
		check(1 << bit)
	}
}

func TestP1_9WrittenIsBlocks(t *testing.T) {
	for count := range 6 {
		b := probe.Bytes(int64(count), 64*count)
		h := someState(int64(count) + 20)
		s := sha.Write(api.Sha{H: h, N: 64}, b)
		for i := range count {
			var e api.Errno
			if h, e = sha.Block(h, b[64*i:64*i+64]); e != api.OK {
				t.Fatal(e)
			}
		}
		if !sameSha(s, api.Sha{H: h, N: 64 + uint64(len(b))}) {
			t.Errorf("%d blocks: %v, want %08x", count, s, h)
		}
	}
}

// The same from the first state on, with the end as the last of the blocks.
func TestP1_9SumIsBlocks(t *testing.T) {
	for n := range 200 {
		b := probe.Bytes(int64(n), n)
		h := sha.First()
		for all := append(slices.Clone(b), sha.End(uint64(n))...); len(all) > 0; all = all[64:] {
			var e api.Errno
			if h, e = sha.Block(h, all[:64]); e != api.OK {
				t.Fatal(e)
			}
		}
		if got := sha.Sum(sha.Write(sha.New(), b)); got != stateBytes(h) || sha.Of(b) != got {
			t.Errorf("%d bytes: %x, want %x", n, got, stateBytes(h))
		}
	}
}
