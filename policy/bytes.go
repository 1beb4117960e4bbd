package policy

import (
	"math"

	"gatepost/api"
	"gatepost/code"
)

// Encode answers the policy's bytes: ErrArg, if it may not be.
func Encode(p api.Policy) ([]byte, api.Errno) {
	if !May(p) {
		return nil, api.ErrArg
	}
	w := writer{code.NewWriter()}
	w.policy(p)
	return w.Bytes(), api.OK
}

// Decode answers the policy whose bytes these are: ErrForm, if there is none that may be.
func Decode(b []byte) (api.Policy, api.Errno) {
	r := reader{code.NewReader(b)}
	p := r.policy()
	if r.End() != api.OK || !May(p) {
		return api.Policy{}, api.ErrForm
	}
	return p, api.OK
}

// writer writes policies that may be, and what they are made of.
type writer struct{ *code.Writer }

// writeRow writes how many the row has, and each of it.
func writeRow[T any](w writer, l []T, one func(T)) {
	w.Uint(uint64(len(l)))
	for _, x := range l {
		one(x)
	}
}

func (w writer) policy(p api.Policy) {
	w.Uint(p.Id)
	w.Text(p.Ns)
	w.Put(p.Service, uint64(p.Deny))
	writeRow(w, p.Rules, w.rule)
}

func (w writer) rule(r api.Rule) {
	writeRow(w, r.From, w.source)
	writeRow(w, r.To, w.target)
	writeRow(w, r.When, w.when)
}

func (w writer) source(s api.Source) {
	w.terms(s.Names)
	w.terms(s.Spaces)
	writeRow(w, s.Nets, w.net)
}

func (w writer) net(c api.Cidr) {
	w.U32(c.Addr)
	w.U8(uint8(c.Bits))
}

func (w writer) target(t api.Target) {
	writeRow(w, t.Ports, w.port)
	w.terms(t.Methods)
	w.terms(t.Paths)
	w.terms(t.Hosts)
}

func (w writer) port(n int) { w.Uint(uint64(n)) }

func (w writer) when(x api.When) {
	w.Text(x.Head)
	w.terms(x.Terms)
}

func (w writer) terms(l []api.Term) { writeRow(w, l, w.term) }

func (w writer) term(t api.Term) {
	w.U8(uint8(t.Kind))
	w.Text(t.Text)
}

// reader takes policies, and what they are made of, from the front of bytes; they may be such as may not be.
type reader struct{ *code.Reader }

// readRow takes how many a row has, of at most most, and each of it.
func readRow[T any](r reader, most int, one func() T) []T {
	size := r.Uint()
	if size > uint64(most) {
		r.Fail()
		return nil
	}
	var l []T
	for range size {
		l = append(l, one())
	}
	return l
}

// number takes a number by one of the reader's methods.
func number[T uint8 | uint64](r reader, take func() T) int {
	x := uint64(take())
	// One that is too great for an int would become another one.
	if x > math.MaxInt {
		r.Fail()
		return 0
	}
	return int(x)
}

func (r reader) policy() api.Policy {
	return api.Policy{
		Id:      r.Uint(),
		Ns:      r.Text(api.MaxLabel),
		Service: r.Uint(),
		Deny:    number(r, r.Uint),
		Rules:   readRow(r, api.MaxRules, r.rule),
	}
}

func (r reader) rule() api.Rule {
	return api.Rule{
		From: readRow(r, api.MaxParts, r.source),
		To:   readRow(r, api.MaxParts, r.target),
		When: readRow(r, api.MaxParts, r.when),
	}
}

func (r reader) source() api.Source {
	return api.Source{
		Names:  r.terms(),
		Spaces: r.terms(),
		Nets:   readRow(r, api.MaxTerms, r.net),
	}
}

func (r reader) net() api.Cidr {
	return api.Cidr{Addr: r.U32(), Bits: number(r, r.U8)}
}

func (r reader) target() api.Target {
	return api.Target{
		Ports:   readRow(r, api.MaxTerms, r.port),
		Methods: r.terms(),
		Paths:   r.terms(),
		Hosts:   r.terms(),
	}
}

func (r reader) port() int { return number(r, r.Uint) }

func (r reader) when() api.When {
	return api.When{Head: r.Text(api.MaxText), Terms: r.terms()}
}

func (r reader) terms() []api.Term { return readRow(r, api.MaxTerms, r.term) }

func (r reader) term() api.Term {
	return api.Term{Kind: number(r, r.U8), Text: r.Text(api.MaxText)}
}
