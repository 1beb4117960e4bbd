package policy_test

import (
	"math/rand"
	"testing"

	"gatepost/api"
	"gatepost/policy"
)

// mixedBad are policies that may not be, with of everything something.
func mixedBad() []api.Policy {
	p := mixed()
	p.Id, p.Deny, p.Ns = 0, -7, "A \xff"
	q := unlike(mixed())[3]
	q.Rules = append(q.Rules, make([]api.Rule, 9)...)
	q.Rules[0].To[0].Ports = []int{-1, -1, 1 << 40}
	q.Rules[0].From[0].Nets = append(q.Rules[0].From[0].Nets, api.Cidr{Addr: 7, Bits: -9})
	q.Rules[0].When[0].Terms = append(q.Rules[0].When[0].Terms, api.Term{Kind: -3, Text: "*\x00"})
	return []api.Policy{{}, p, q}
}

func TestP12_2SameOnes(t *testing.T) {
	for _, p := range append(append(goodPolicies(), badPolicies()...), mixedBad()...) {
		if !policy.Same(p, p) || !policy.Same(p, apart(p)) || !policy.Same(apart(p), p) {
			t.Errorf("not the same as itself: %.700s", text(p))
		}
	}
}

// A policy that is other in one thing, wherever it is, is another one.
func TestP12_2Unlike(t *testing.T) {
	r := rand.New(rand.NewSource(1))
	l := append(mixedBad(), mixed(), api.Policy{Id: 1}, api.Policy{Id: 7, Rules: []api.Rule{mostOf()}})
	for range 10 {
		l = append(l, somePolicy(r))
	}
	n := 0
	for _, p := range l {
		for _, q := range unlike(p) {
			if policy.Same(p, q) || policy.Same(q, p) {
				t.Errorf("the same: %.700s and %.700s", text(p), text(q))
			}
			n++
		}
	}
	if n < 5000 {
		t.Errorf("only %d policies that are unlike", n)
	}
}

func TestP12_2Pairs(t *testing.T) {
	l := append(append(goodPolicies(), mixedBad()...), badPolicies()[:40]...)
	for i, p := range l {
		for j, q := range l {
			if want := text(p) == text(q); policy.Same(p, q) != want || i == j && !want {
				t.Errorf("%v: %.500s and %.500s", !want, text(p), text(q))
			}
		}
	}
}

// Rows that are nil and rows that are empty are one, at each place.
func TestP12_2NilAndEmpty(t *testing.T) {
	var nothing api.Rule
	empty := api.Rule{From: []api.Source{}, To: []api.Target{}, When: []api.When{}}
	inner := api.Rule{From: []api.Source{{}}, To: []api.Target{{}}, When: []api.When{{}}}
	innerEmpty := api.Rule{
		From: []api.Source{{Names: []api.Term{}, Spaces: []api.Term{}, Nets: []api.Cidr{}}},
		To:   []api.Target{{Ports: []int{}, Methods: []api.Term{}, Paths: []api.Term{}, Hosts: []api.Term{}}},
		When: []api.When{{Terms: []api.Term{}}},
	}
	of := func(l ...api.Rule) api.Policy { return api.Policy{Id: 1, Rules: l} }
	for _, x := range [][2]api.Policy{{of(nothing), of(empty)}, {of(inner), of(innerEmpty)}, {{Id: 1}, {Id: 1, Rules: []api.Rule{}}}} {
		if !policy.Same(x[0], x[1]) || !policy.Same(x[1], x[0]) || !policy.Same(policy.Own(x[0]), x[1]) || !policy.Same(policy.Own(x[1]), x[0]) {
			t.Errorf("not the same: %#v and %#v", x[0], x[1])
		}
	}
	if policy.Same(of(nothing), of(inner)) || policy.Same(of(), of(nothing)) {
		t.Error("a row of one that is empty is none")
	}
}

func TestP12_2Own(t *testing.T) {
	l := append(append(goodPolicies(), badPolicies()...), mixedBad()...)
	r := rand.New(rand.NewSource(2))
	for range 200 {
		l = append(l, somePolicy(r))
	}
	for _, p := range l {
		want := text(p)
		o := policy.Own(p)
		if text(o) != want || !policy.Same(o, p) {
			t.Errorf("%.700s is %.700s", want, text(o))
		}
	}
	for _, p := range unlike(mixed()) {
		if text(policy.Own(p)) != text(p) {
			t.Errorf("%.700s is %.700s", text(p), text(policy.Own(p)))
		}
	}
}
