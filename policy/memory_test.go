package policy_test

import (
	"bytes"
	"cmp"
	"math/rand"
	"reflect"
	"slices"
	"strings"
	"testing"
	"unsafe"

	"gatepost/api"
	"gatepost/policy"
	"gatepost/probe"
)

// beyond is how many items stand behind the end of a lent list.
const beyond = 3

// lent answers the policy in memory that scrub makes another one, with room behind its lists; stays tells whether all of it, and the room, is as it was.
func lent(p api.Policy) (given api.Policy, stays func() bool, scrub func()) {
	given = apart(p)
	var texts [][]byte
	var lists []reflect.Value
	visit(reflect.ValueOf(&given).Elem(), func(v reflect.Value) {
		switch v.Kind() {
		case reflect.String:
			s, memory := lentText(v.String())
			v.SetString(s)
			texts = append(texts, memory)
		case reflect.Slice:
			n := v.Len()
			whole := reflect.MakeSlice(v.Type(), n+beyond, n+beyond)
			reflect.Copy(whole, v)
			for i := n; i < n+beyond; i++ {
				fill(whole.Index(i))
			}
			v.Set(whole.Slice3(0, n, n+beyond))
			lists = append(lists, whole)
		}
	})
	before := whole(given, lists)
	return given, func() bool { return whole(given, lists) == before }, func() {
		for _, b := range texts {
			probe.Scrub(b)
		}
		for _, l := range lists {
			for i := range l.Len() {
				fill(l.Index(i))
			}
		}
	}
}

// whole tells the policy, and the lists to the end of their room.
func whole(p api.Policy, lists []reflect.Value) string {
	s := text(p)
	for _, l := range lists {
		s += text(l.Interface())
	}
	return s
}

// fill makes v one that stands in no sample.
func fill(v reflect.Value) {
	switch v.Kind() {
	case reflect.Int:
		v.SetInt(77)
	case reflect.Uint32, reflect.Uint64:
		v.SetUint(77)
	case reflect.String:
		v.SetString("beyond")
	case reflect.Struct:
		for i := range v.NumField() {
			fill(v.Field(i))
		}
	case reflect.Slice:
		v.SetZero()
	}
}

// samples are policies that may be, and such as may not.
func samples() []api.Policy {
	l := append(goodPolicies()[:12], mixed(), api.Policy{Id: 8, Ns: label20, Rules: []api.Rule{mostOf()}}, api.Policy{Id: 1, Ns: "A", Rules: []api.Rule{{From: make([]api.Source, 9)}, mostOf()}})
	l = append(append(l, badPolicies()[:18]...), mixedBad()...)
	r := rand.New(rand.NewSource(3))
	for range 20 {
		l = append(l, somePolicy(r))
	}
	return l
}

func TestP12_4HandedInStays(t *testing.T) {
	for _, p := range samples() {
		given, stays, _ := lent(p)
		other, otherStays, _ := lent(p)
		policy.May(given)
		policy.Own(given)
		policy.Same(given, other)
		policy.Encode(given)
		for _, r := range given.Rules {
			policy.MayRule(r)
			policy.Seventh(r)
		}
		if !stays() || !otherStays() {
			t.Errorf("is changed: %.700s", text(p))
		}
		if b, err := policy.Encode(p); err == api.OK {
			guarded, bytesStay := probe.Guarded(b)
			if policy.Decode(guarded); !bytesStay() {
				t.Errorf("bytes are changed: %.700s", text(p))
			}
		}
	}
}

func TestP12_4HandedInIsNotKept(t *testing.T) {
	for _, p := range samples() {
		given, _, scrub := lent(p)
		o := policy.Own(given)
		b, err := policy.Encode(given)
		before := bytes.Clone(b)
		scrub()
		if text(o) != text(p) {
			t.Errorf("%.500s: its own one is %.500s behind a change of it", text(p), text(o))
		}
		if !bytes.Equal(b, before) {
			t.Errorf("%.500s: its bytes are %x behind a change of it", text(p), b)
		}
		if err == api.OK {
			q, _ := policy.Decode(b)
			probe.Scrub(b)
			if text(q) != text(p) {
				t.Errorf("%.500s is %.500s behind a change of its bytes", text(p), text(q))
			}
		}
	}
}

// span is the memory of a list, with the room behind its end, or of a text.
type span struct{ from, to uintptr }

// spans answers the memory of the policy's lists, and of its texts.
func spans(p *api.Policy) (lists, texts []span) {
	visit(reflect.ValueOf(p).Elem(), func(v reflect.Value) {
		switch v.Kind() {
		case reflect.Slice:
			if size := uintptr(v.Cap()) * v.Type().Elem().Size(); size > 0 {
				lists = append(lists, span{v.Pointer(), v.Pointer() + size})
			}
		case reflect.String:
			s := v.String()
			if from := uintptr(unsafe.Pointer(unsafe.StringData(s))); s != "" {
				texts = append(texts, span{from, from + uintptr(len(s))})
			}
		}
	})
	return lists, texts
}

// overlap tells whether a span is in another one's memory: one of a row with one of the same row, or with one of another row.
func overlap(rows ...[]span) bool {
	all := slices.Concat(rows...)
	slices.SortFunc(all, func(a, b span) int { return cmp.Compare(a.from, b.from) })
	for i := 1; i < len(all); i++ {
		if all[i].from < all[i-1].to {
			return true
		}
	}
	return false
}

// No two lists of an answer share memory, nor do those of two answers, nor an answer and what it was made of.
func checkApart(t *testing.T, told string, given, first, second api.Policy) {
	t.Helper()
	givenLists, givenTexts := spans(&given)
	firstLists, firstTexts := spans(&first)
	secondLists, _ := spans(&second)
	if overlap(firstLists, secondLists) {
		t.Errorf("%s: lists share memory: %.500s", told, text(first))
	}
	for _, x := range append(givenLists, givenTexts...) {
		for _, y := range append(firstLists, firstTexts...) {
			if overlap([]span{x, y}) {
				t.Errorf("%s: shares memory with what was given: %.500s", told, text(first))
				return
			}
		}
	}
}

// rowsAlike is a policy whose lists are one another's.
func rowsAlike() api.Policy {
	row := exact("a", "b")
	nets := []api.Cidr{{}}
	s := api.Source{Names: row, Spaces: row, Nets: nets}
	x := api.Target{Methods: row, Paths: row, Hosts: row, Ports: []int{80}}
	w := api.When{Head: "x", Terms: row}
	rule := api.Rule{From: []api.Source{s, s}, To: []api.Target{x, x}, When: []api.When{w, w}}
	return api.Policy{Id: 1, Rules: []api.Rule{rule, rule}}
}

func TestP12_4AnswersAreNew(t *testing.T) {
	for _, p := range append(samples(), rowsAlike()) {
		given, _, _ := lent(p)
		checkApart(t, "Own", given, policy.Own(given), policy.Own(given))
		b, err := policy.Encode(p)
		if err != api.OK {
			continue
		}
		first, _ := policy.Decode(b)
		second, _ := policy.Decode(b)
		checkApart(t, "Decode", p, first, second)
		again, _ := policy.Encode(p)
		probe.Scrub(again)
		if second, _ := policy.Encode(p); !bytes.Equal(second, b) || !bytes.Equal(b, bytesOf(p)) {
			t.Errorf("%.500s: two answers of its bytes share memory", text(p))
		}
	}
}

// What is changed in an answer is changed there alone.
func TestP12_4RowsAlikeAreApart(t *testing.T) {
	p := rowsAlike()
	want := text(p)
	o := policy.Own(p)
	o.Rules[0].From[0].Names[0].Text = "c"
	o.Rules[1].To[0].Ports[0] = 81
	o.Rules[1].When = append(o.Rules[1].When[:1], api.When{Head: "y"})
	s := text(o)
	if strings.Count(s, `"c"`) != 1 || strings.Count(s, `"a"`) != strings.Count(want, `"a"`)-2 || text(p) != want {
		t.Errorf("%s, of %s", s, text(p))
	}
}
