package probe_test

import (
	"bytes"
	"slices"
	"testing"

	"gatepost/probe"
)

func TestBytes(t *testing.T) {
	for n := range 100 {
		if b := probe.Bytes(1, n); len(b) != n || !bytes.Equal(b, probe.Bytes(1, n)) {
			t.Errorf("%d bytes: %x", n, b)
		}
	}
	seen := map[string]bool{}
	for seed := range int64(1000) {
		seen[string(probe.Bytes(seed, 32))] = true
	}
	if len(seen) != 1000 {
		t.Errorf("1000 seeds, %d texts", len(seen))
	}
	count := map[byte]int{}
	for _, x := range probe.Bytes(7, 1<<16) {
		count[x]++
	}
	for x, n := range count {
		if len(count) != 256 || n < 128 || n > 512 {
			t.Fatalf("the byte %d stands there %d times, of %d kinds", x, n, len(count))
		}
	}
}

// Each byte's change is told, and so is that of the room behind the end.
func TestGuarded(t *testing.T) {
	for _, n := range []int{0, 1, 20} {
		want := probe.Bytes(1, n)
		for i := range n + 1 {
			got, stays := probe.Guarded(want)
			if !bytes.Equal(got, want) || cap(got) <= n || !stays() {
				t.Fatalf("%d bytes: %x, room for %d", n, got, cap(got))
			}
			got[: n+1 : n+1][i]++
			if stays() {
				t.Errorf("%d bytes: the change of byte %d is not told", n, i)
			}
		}
		got, stays := probe.Guarded(want)
		got[:cap(got)][cap(got)-1]++
		if stays() {
			t.Errorf("%d bytes: the change of the last byte behind them is not told", n)
		}
	}
}

func TestGuardedRow(t *testing.T) {
	want := []string{"a", "b"}
	for i := range 4 {
		got, stays := probe.GuardedRow(want, "behind")
		if !slices.Equal(got, want) || cap(got) <= 4 || got[:3][2] != "behind" || !stays() {
			t.Fatalf("%q, room for %d", got, cap(got))
		}
		got[:4][i] = "other"
		if stays() {
			t.Errorf("the change of item %d is not told", i)
		}
	}
}

func TestScrub(t *testing.T) {
	b := make([]byte, 10, 20)
	probe.Scrub(b)
	for i, x := range b[:cap(b)] {
		if x == 0 {
			t.Errorf("byte %d is as it was", i)
		}
	}
	probe.Scrub(nil)
}

func TestRows(t *testing.T) {
	want := [][]int{nil, {1}, {2}, {1, 1}, {1, 2}, {2, 1}, {2, 2}}
	for most, n := range map[int]int{-1: 1, 0: 1, 1: 3, 2: 7} {
		if got := probe.Rows(most, 1, 2); !slices.EqualFunc(got, want[:n], slices.Equal) {
			t.Errorf("%d: %v", most, got)
		}
	}
	if got := probe.Rows[int](3); len(got) != 1 || len(got[0]) != 0 {
		t.Errorf("of nothing: %v", got)
	}
	rows := probe.Rows(4, 1, 2, 3)
	for i, l := range rows {
		before := slices.Clone(l)
		for j := range l {
			l[j] = 9
		}
		for _, m := range rows[i+1:] {
			if slices.Contains(m, 9) {
				t.Fatalf("%v: another row is changed with it", before)
			}
		}
		copy(l, before)
	}
}

func TestTexts(t *testing.T) {
	if got := probe.Texts(2, "a", "bc"); !slices.Equal(got, []string{"", "a", "bc", "aa", "abc", "bca", "bcbc"}) {
		t.Errorf("%q", got)
	}
	if got := probe.Texts(3); !slices.Equal(got, []string{""}) {
		t.Errorf("of nothing: %q", got)
	}
}

func TestNear(t *testing.T) {
	count := map[string]int{}
	n := 0
	for s := range probe.Near("ab") {
		count[s]++
		n++
	}
	if n != 2*3+3*256+2*256 {
		t.Errorf("%d texts", n)
	}
	for _, s := range []string{"", "a", "b", "ab", "xab", "axb", "abx", "xb", "ax", "a\x00", "\xffb", "aab", "abb"} {
		if count[s] == 0 {
			t.Errorf("%q is not there", s)
		}
	}
	for s := range count {
		if len(s) > 3 || len(s) == 3 && s[1:] != "ab" && s[:2] != "ab" && s[:1]+s[2:] != "ab" || len(s) == 2 && s[0] != 'a' && s[1] != 'b' {
			t.Errorf("%q is not near", s)
		}
	}
	for most := range n {
		i := 0
		for range probe.Near("ab") {
			if i == most {
				break
			}
			i++
		}
	}
}

func TestEdited(t *testing.T) {
	for _, x := range []struct {
		choices []int
		want    string
	}{
		{[]int{0}, "abc"},
		{[]int{1, 1, 1, 0}, "aybc"},
		{[]int{1, 3, 0, 1}, "abcx"},
		{[]int{1, 1, 1, 1, 0}, "ac"},
		{[]int{1, 2, 1, 2, 1}, "aby"},
		{[]int{2, 0, 0, 1, 0, 0, 1, 0}, "ybc"},
	} {
		at := 0
		got := probe.Edited("abc", "xy", func(n int) int {
			at++
			if x.choices[at-1] >= n {
				t.Fatalf("%v: number %d is to be below %d", x.choices, at, n)
			}
			return x.choices[at-1]
		})
		if got != x.want || at != len(x.choices) {
			t.Errorf("%v: %q, %d chosen", x.choices, got, at)
		}
	}
}
