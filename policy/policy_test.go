package policy_test

import (
	"math/rand"
	"slices"
	"testing"

	"gatepost/api"
	"gatepost/policy"
)

func TestP12_1Examples(t *testing.T) {
	ports := func(l ...int) api.Policy {
		return api.Policy{Id: 3, Deny: 1, Rules: []api.Rule{{To: []api.Target{{Ports: l}}}}}
	}
	if !policy.May(ports(80, 81)) || policy.May(ports(80, 80)) {
		t.Error("ports: two that are not alike, and two that are")
	}
	terms := func(l ...api.Term) api.Policy {
		return api.Policy{Id: 3, Rules: []api.Rule{{When: []api.When{{Head: "x", Terms: l}}}}}
	}
	if !policy.May(terms(exact("a")...)) || policy.May(terms()) {
		t.Error("conditions: one with a term, and one without")
	}
	if policy.Seventh(ports(80).Rules[0]) || !policy.Seventh(api.Rule{To: []api.Target{{Ports: []int{80}, Paths: exact("/")}}}) {
		t.Error("rules of ports alone, and of a path")
	}
}

func TestP12_1GoodRules(t *testing.T) {
	for _, r := range goodRules() {
		if !isRule(r) || !policy.MayRule(r) {
			t.Errorf("may not be: %.700s", text(r))
		}
	}
}

func TestP12_1BadRules(t *testing.T) {
	for _, r := range badRules() {
		if isRule(r) || policy.MayRule(r) {
			t.Errorf("may be: %.700s", text(r))
		}
	}
}

func TestP12_1GoodPolicies(t *testing.T) {
	for _, p := range goodPolicies() {
		if !isPolicy(p) || !policy.May(p) {
			t.Errorf("may not be: %.700s", text(p))
		}
	}
}

func TestP12_1BadPolicies(t *testing.T) {
	for _, p := range badPolicies() {
		if isPolicy(p) || policy.May(p) {
			t.Errorf("may be: %.700s", text(p))
		}
	}
}

// What is other in one thing than a policy that may be may be, or may not.
func TestP12_1Unlike(t *testing.T) {
	r := rand.New(rand.NewSource(1))
	l := []api.Policy{mixed(), {Id: 1<<62 - 1, Ns: label20, Service: 1<<62 - 1, Deny: 1, Rules: []api.Rule{mostOf(), {}, {}, {}, {}, {}}}}
	for range 10 {
		l = append(l, somePolicy(r))
	}
	for _, p := range l {
		for _, q := range append(unlike(p), p) {
			if policy.May(q) != isPolicy(q) {
				t.Errorf("%v: %.700s", policy.May(q), text(q))
			}
			for _, x := range q.Rules {
				if policy.MayRule(x) != isRule(x) {
					t.Errorf("%v: %.700s", policy.MayRule(x), text(x))
				}
			}
		}
	}
}

func TestP12_1Seventh(t *testing.T) {
	for _, x := range []struct {
		told string
		r    api.Rule
		want bool
	}{
		{"nothing", api.Rule{}, false},
		{"empty lists", api.Rule{From: []api.Source{}, To: []api.Target{}, When: []api.When{}}, false},
		{"sources", api.Rule{From: mostOf().From}, false},
		{"targets without anything", api.Rule{To: make([]api.Target, 3)}, false},
		{"ports", api.Rule{From: mostOf().From, To: []api.Target{{Ports: []int{80}}, {Ports: []int{81}}}}, false},
		{"empty rows of terms", api.Rule{To: []api.Target{{Methods: []api.Term{}, Paths: []api.Term{}, Hosts: []api.Term{}}}}, false},
		{"a method", api.Rule{To: []api.Target{{Methods: exact("GET")}}}, true},
		{"a path", api.Rule{To: []api.Target{{Paths: exact("/")}}}, true},
		{"a host", api.Rule{To: []api.Target{{Hosts: exact("a")}}}, true},
		{"a path that all have", api.Rule{To: []api.Target{{Paths: []api.Term{{Kind: api.TermPresent}}}}}, true},
		{"a method, in the last target", api.Rule{To: []api.Target{{}, {Ports: []int{80}}, {Methods: exact("GET")}}}, true},
		{"a host, in the first target", api.Rule{To: []api.Target{{Hosts: exact("a")}, {}, {}}}, true},
		{"a condition", api.Rule{When: []api.When{{Head: "x", Terms: exact("a")}}}, true},
		{"a condition, and ports", api.Rule{From: mostOf().From, To: []api.Target{{Ports: []int{80}}}, When: mostOf().When}, true},
		{"all", mostOf(), true},
		{"a condition that may not be", api.Rule{When: make([]api.When, 1)}, true},
		{"a method that may not be", api.Rule{To: []api.Target{{Methods: make([]api.Term, 1)}}}, true},
		{"paths that may not be", api.Rule{To: []api.Target{{Paths: make([]api.Term, 1000)}}}, true},
		{"a host that may not be, behind targets that are too many", api.Rule{To: append(make([]api.Target, 1000), api.Target{Hosts: make([]api.Term, 1)})}, true},
		{"sources and ports that may not be", api.Rule{From: make([]api.Source, 9), To: []api.Target{{Ports: make([]int, 9)}}}, false},
		{"targets that are too many", api.Rule{To: make([]api.Target, 1000)}, false},
	} {
		if policy.Seventh(x.r) != x.want {
			t.Errorf("%s: %v", x.told, !x.want)
		}
	}
}

func TestP12_1SeventhOfAny(t *testing.T) {
	r := rand.New(rand.NewSource(2))
	for range 3000 {
		x := someRule(r)
		looks := func(t api.Target) bool { return len(t.Methods) > 0 || len(t.Paths) > 0 || len(t.Hosts) > 0 }
		if want := len(x.When) > 0 || slices.ContainsFunc(x.To, looks); policy.Seventh(x) != want {
			t.Errorf("%v: %.700s", !want, text(x))
		}
	}
}
