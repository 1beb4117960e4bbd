package policy

import (
	"slices"
	"strings"

	"gatepost/api"
)

// Same tells whether the policies are the same, row by row; any policies are compared, and no rows and empty ones are one.
func Same(a, b api.Policy) bool {
	return a.Id == b.Id && a.Ns == b.Ns && a.Service == b.Service && a.Deny == b.Deny &&
		sameRow(a.Rules, b.Rules, sameRule)
}

// sameRow tells whether two rows have as many, and each is the same as the one at its place.
func sameRow[T any](a, b []T, same func(a, b T) bool) bool {
	return slices.EqualFunc(a, b, same)
}

// sameRule tells whether two rules are the same.
func sameRule(a, b api.Rule) bool {
	return sameRow(a.From, b.From, sameSource) && sameRow(a.To, b.To, sameTarget) && sameRow(a.When, b.When, sameWhen)
}

// sameSource tells whether two sources are the same.
func sameSource(a, b api.Source) bool {
	return sameTerms(a.Names, b.Names) && sameTerms(a.Spaces, b.Spaces) && sameRow(a.Nets, b.Nets, isOne)
}

// sameTarget tells whether two targets are the same.
func sameTarget(a, b api.Target) bool {
	return sameRow(a.Ports, b.Ports, isOne) &&
		sameTerms(a.Methods, b.Methods) && sameTerms(a.Paths, b.Paths) && sameTerms(a.Hosts, b.Hosts)
}

// sameWhen tells whether two conditions are the same.
func sameWhen(a, b api.When) bool {
	return a.Head == b.Head && sameTerms(a.Terms, b.Terms)
}

// sameTerms tells whether two rows of terms are the same.
func sameTerms(a, b []api.Term) bool { return sameRow(a, b, isOne) }

// isOne tells whether a is b.
func isOne[T comparable](a, b T) bool { return a == b }

// Own answers the same policy, in memory of its own.
func Own(p api.Policy) api.Policy {
	p.Ns = strings.Clone(p.Ns)
	p.Rules = ownRow(p.Rules, ownRule)
	return p
}

// ownRow answers the row, and what own answers of each of it, in memory of its own.
func ownRow[T any](l []T, own func(T) T) []T {
	var out []T
	for _, x := range l {
		out = append(out, own(x))
	}
	return out
}

// ownRule answers the rule in memory of its own.
func ownRule(r api.Rule) api.Rule {
	return api.Rule{
		From: ownRow(r.From, ownSource),
		To:   ownRow(r.To, ownTarget),
		When: ownRow(r.When, ownWhen),
	}
}

// ownSource answers the source in memory of its own.
func ownSource(s api.Source) api.Source {
	return api.Source{
		Names:  ownRow(s.Names, ownTerm),
		Spaces: ownRow(s.Spaces, ownTerm),
		Nets:   ownRow(s.Nets, asItIs),
	}
}

// ownTarget answers the target in memory of its own.
func ownTarget(t api.Target) api.Target {
	return api.Target{
		Ports:   ownRow(t.Ports, asItIs),
		Methods: ownRow(t.Methods, ownTerm),
		Paths:   ownRow(t.Paths, ownTerm),
		Hosts:   ownRow(t.Hosts, ownTerm),
	}
}

// ownWhen answers the condition in memory of its own.
func ownWhen(w api.When) api.When {
	return api.When{Head: strings.Clone(w.Head), Terms: ownRow(w.Terms, ownTerm)}
}

// ownTerm answers the term in memory of its own.
func ownTerm(t api.Term) api.Term {
	return api.Term{Kind: t.Kind, Text: strings.Clone(t.Text)}
}

// asItIs answers x: what has no memory that it could share.
func asItIs[T any](x T) T { return x }
