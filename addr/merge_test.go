package addr_test

import (
	"math"
	"math/rand"
	"slices"
	"testing"

	"gatepost/addr"
	"gatepost/api"
	"gatepost/probe"
)

// mayBe tells by a division whether a net may be.
func mayBe(c api.Cidr) bool {
	return c.Bits >= 0 && c.Bits <= 32 && uint64(c.Addr)%count(c.Bits) == 0
}

// spansOf answers the addresses of the nets that may be as spans that rise, of which no two touch.
func spansOf(l []api.Cidr) []span {
	var row, whole []span
	for _, c := range l {
		if mayBe(c) {
			row = append(row, spanOf(c))
		}
	}
	slices.SortFunc(row, func(s, x span) int { return int(s.from) - int(x.from) })
	for _, s := range row {
		if n := len(whole); n > 0 && s.from <= whole[n-1].to {
			whole[n-1].to = max(whole[n-1].to, s.to)
		} else {
			whole = append(whole, s)
		}
	}
	return whole
}

// fewest answers the nets that spans are made of, each time the greatest one that fits.
func fewest(spans []span) []api.Cidr {
	var l []api.Cidr
	for _, s := range spans {
		for at := s.from; at < s.to; {
			bits := 0
			for at%count(bits) != 0 || at+count(bits) > s.to {
				bits++
			}
			l = append(l, api.Cidr{Addr: uint32(at), Bits: bits})
			at += count(bits)
		}
	}
	return l
}

// checkMerge tells if the row is merged otherwise than by its spans, or if it is changed.
func checkMerge(t *testing.T, l []api.Cidr) {
	t.Helper()
	got, stays := probe.GuardedRow(l, api.Cidr{Addr: 0x0a000000, Bits: 7})
	if m, want := addr.Merge(got...), fewest(spansOf(l)); !slices.Equal(m, want) {
		t.Errorf("Merge(%v): %v, want %v", l, m, want)
	}
	if !stays() {
		t.Errorf("Merge(%v): it is changed, or the room behind it", l)
	}
}

// tree answers a net, and all nets in it of up to so many bits more.
func tree(c api.Cidr, more int) []api.Cidr {
	l := []api.Cidr{c}
	if more == 0 {
		return l
	}
	for i := range uint32(2) {
		half := api.Cidr{Addr: c.Addr + i*uint32(count(c.Bits+1)), Bits: c.Bits + 1}
		l = append(l, tree(half, more-1)...)
	}
	return l
}

// someRow answers a row of nets that lie near one another, at times the same one more than once, or one that may not be; r says which.
func someRow(r *rand.Rand) []api.Cidr {
	var l []api.Cidr
	base, narrow := r.Uint32(), r.Intn(33)
	for range r.Intn(40) {
		bits := narrow + r.Intn(33-narrow)
		c := netOf(base^r.Uint32()>>narrow, bits)
		switch r.Intn(8) {
		case 0:
			c = api.Cidr{Addr: c.Addr | 1, Bits: bits - r.Intn(2)*40}
		case 1:
			c = netOf(c.Addr^uint32(count(bits)), bits)
		}
		l = append(l, c)
		if r.Intn(4) == 0 {
			l = append(l, l[r.Intn(len(l))])
		}
	}
	return l
}

func TestP4_4Examples(t *testing.T) {
	m := addr.Merge(api.Cidr{Addr: 0x0a000000, Bits: 9}, api.Cidr{Addr: 0x0a800000, Bits: 9}, api.Cidr{Addr: 0x0a010000, Bits: 16})
	if !slices.Equal(m, []api.Cidr{ten}) {
		t.Errorf("%v", m)
	}
}

func TestP4_4Rows(t *testing.T) {
	low, high := api.Cidr{Bits: 1}, api.Cidr{Addr: 1 << 31, Bits: 1}
	one := func(a uint32) api.Cidr { return api.Cidr{Addr: a, Bits: 32} }
	bad := []api.Cidr{{Addr: 1, Bits: 8}, {Bits: -1}, {Bits: 33}, {Bits: math.MinInt}, {Addr: math.MaxUint32, Bits: math.MaxInt}}
	for i, x := range []struct{ l, want []api.Cidr }{
		{nil, nil},
		{[]api.Cidr{}, nil},
		{[]api.Cidr{ten}, []api.Cidr{ten}},
		{[]api.Cidr{ten, ten, ten}, []api.Cidr{ten}},
		{[]api.Cidr{all, all}, []api.Cidr{all}},
		{[]api.Cidr{all, ten, low, high, one(7)}, []api.Cidr{all}},
		{[]api.Cidr{low, high}, []api.Cidr{all}},
		{[]api.Cidr{high, low}, []api.Cidr{all}},
		{[]api.Cidr{high, ten, low, high}, []api.Cidr{all}},
		{[]api.Cidr{high}, []api.Cidr{high}},
		{bad, nil},
		{append(slices.Clone(bad), ten), []api.Cidr{ten}},
		{append([]api.Cidr{high}, bad...), []api.Cidr{high}},
		{[]api.Cidr{one(0), one(math.MaxUint32)}, []api.Cidr{one(0), one(math.MaxUint32)}},
		{[]api.Cidr{one(1), one(0)}, []api.Cidr{{Bits: 31}}},
		{[]api.Cidr{one(1), one(2)}, []api.Cidr{one(1), one(2)}},
		{[]api.Cidr{one(3), one(1), one(2), one(0)}, []api.Cidr{{Bits: 30}}},
		{[]api.Cidr{one(math.MaxUint32), one(math.MaxUint32 - 1)}, []api.Cidr{{Addr: math.MaxUint32 - 1, Bits: 31}}},
		{[]api.Cidr{one(0x0a000001), ten, one(0x0b000000)}, []api.Cidr{ten, one(0x0b000000)}},
	} {
		m := addr.Merge(x.l...)
		if !slices.Equal(m, x.want) {
			t.Errorf("case %d, %v: %v, want %v", i, x.l, m, x.want)
		}
		checkMerge(t, x.l)
	}
	if m := addr.Merge(); len(m) != 0 {
		t.Errorf("no nets: %v", m)
	}
}

// A row of ever smaller nets becomes, by its last one of one address, the net of all; without any of them it does not.
func TestP4_4Ladder(t *testing.T) {
	for _, a := range []uint32{0, 1, 0x0a000102, 0x55555555, 0x80000000, math.MaxUint32} {
		row := []api.Cidr{{Addr: a, Bits: 32}}
		for bits := 1; bits <= 32; bits++ {
			row = append(row, netOf(a^1<<(32-bits), bits))
		}
		r := rand.New(rand.NewSource(8))
		for range 20 {
			r.Shuffle(len(row), func(i, j int) { row[i], row[j] = row[j], row[i] })
			if m := addr.Merge(row...); !slices.Equal(m, []api.Cidr{all}) {
				t.Errorf("all but none: %v", m)
			}
			for i := range row {
				left := slices.Delete(slices.Clone(row), i, i+1)
				if m := addr.Merge(left...); len(m) == 1 && m[0] == all {
					t.Errorf("%v is left out, and merged is all", row[i])
				}
				checkMerge(t, left)
			}
		}
	}
}

// Each choice of the nets that are in a net of eight addresses, in three orders; and of those of the first three bits.
func TestP4_4EachChoice(t *testing.T) {
	r := rand.New(rand.NewSource(9))
	for _, root := range []api.Cidr{all, {Bits: 29}, {Addr: 0x0a000108, Bits: 29}, {Addr: math.MaxUint32 - 7, Bits: 29}} {
		nets := tree(root, 3)
		for choice := range 1 << len(nets) {
			var row []api.Cidr
			for i, c := range nets {
				if choice>>i&1 == 1 {
					row = append(row, c)
				}
			}
			checkMerge(t, row)
			slices.Reverse(row)
			checkMerge(t, row)
			r.Shuffle(len(row), func(i, j int) { row[i], row[j] = row[j], row[i] })
			checkMerge(t, row)
		}
	}
}

func TestP4_4AnyRow(t *testing.T) {
	r := rand.New(rand.NewSource(10))
	for range 20000 {
		checkMerge(t, someRow(r))
	}
}

// Many addresses, each as a net of its own.
func TestP4_4ManyAddresses(t *testing.T) {
	var row []api.Cidr
	for a := range uint32(1 << 16) {
		row = append(row, api.Cidr{Addr: 0x0a010000 + a, Bits: 32})
	}
	r := rand.New(rand.NewSource(11))
	r.Shuffle(len(row), func(i, j int) { row[i], row[j] = row[j], row[i] })
	if m := addr.Merge(row...); !slices.Equal(m, []api.Cidr{{Addr: 0x0a010000, Bits: 16}}) {
		t.Errorf("%d nets", len(m))
	}
	checkMerge(t, row[1:])
	checkMerge(t, row[:len(row)/2])
}

// What is answered shares no memory with what was handed in, nor with another answer.
func TestP4_5MergedIsNew(t *testing.T) {
	rows := [][]api.Cidr{
		{ten},
		{ten, ten},
		{{Addr: 1, Bits: 32}, {Addr: 4, Bits: 32}, ten, lastOne},
		{lastOne, ten, {Addr: 1, Bits: 32}},
		{{Addr: 0x0a000000, Bits: 9}, {Addr: 0x0a800000, Bits: 9}, lastOne},
	}
	for _, l := range rows {
		row, stays := probe.GuardedRow(l, all)
		first, second := addr.Merge(row...), addr.Merge(row...)
		want := slices.Clone(first)
		first = first[:cap(first)]
		for i := range first {
			first[i] = api.Cidr{Addr: 99, Bits: 99}
		}
		if !stays() {
			t.Errorf("%v: changed by a change of what was answered", l)
		}
		if !slices.Equal(second, want) {
			t.Errorf("%v: one answer is changed by a change of another one: %v", l, second)
		}
		row = row[:cap(row)]
		for i := range row {
			row[i] = api.Cidr{Addr: 99, Bits: 99}
		}
		if !slices.Equal(second, want) {
			t.Errorf("%v: the answer is changed by a change of what was handed in: %v", l, second)
		}
		if m := addr.Merge(l...); !slices.Equal(m, want) {
			t.Errorf("%v: merged once more: %v, want %v", l, m, want)
		}
	}
}

func TestP4_8SameAddresses(t *testing.T) {
	r := rand.New(rand.NewSource(12))
	for range 3000 {
		row := someRow(r)
		m := addr.Merge(row...)
		has := func(l []api.Cidr, a uint32) bool {
			return slices.ContainsFunc(l, func(c api.Cidr) bool { return addr.In(c, a) })
		}
		for _, c := range row {
			if !mayBe(c) {
				continue
			}
			for _, a := range around(c) {
				if has(row, a) != has(m, a) {
					t.Errorf("%v, merged %v: %#x is in one of them alone", row, m, a)
				}
			}
		}
	}
}

// Merged again it stays; it rises; no two nets of it overlap, none can be left out, no two can be put together.
func TestP4_8Merged(t *testing.T) {
	r := rand.New(rand.NewSource(13))
	for range 5000 {
		row := someRow(r)
		m := addr.Merge(row...)
		if again := addr.Merge(m...); !slices.Equal(again, m) {
			t.Errorf("%v, merged %v, again %v", row, m, again)
		}
		turned := slices.Clone(m)
		slices.Reverse(turned)
		if again := addr.Merge(turned...); !slices.Equal(again, m) {
			t.Errorf("%v, merged %v, turned round and again %v", row, m, again)
		}
		for i, c := range m {
			if !mayBe(c) {
				t.Errorf("%v, merged %v: %v may not be", row, m, c)
			}
			if i == 0 {
				continue
			}
			ahead := m[i-1]
			if spanOf(ahead).to > uint64(c.Addr) {
				t.Errorf("%v, merged %v: %v and %v overlap, or fall", row, m, ahead, c)
			}
			if ahead.Bits == c.Bits && netOf(ahead.Addr, max(c.Bits-1, 0)) == netOf(c.Addr, max(c.Bits-1, 0)) {
				t.Errorf("%v, merged %v: %v and %v can be put together", row, m, ahead, c)
			}
		}
	}
}

func TestP4_9HalvesMerged(t *testing.T) {
	for _, c := range goodNets() {
		l, ok := addr.Halves(c)
		if !ok {
			continue
		}
		for range 2 {
			if m := addr.Merge(l...); !slices.Equal(m, []api.Cidr{c}) {
				t.Errorf("the halves %v of %v, merged: %v", l, c, m)
			}
			slices.Reverse(l)
		}
	}
}
