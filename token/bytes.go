package token

import (
	"gatepost/api"
	"gatepost/code"
)

// mark is the first byte of what is said of a token.
const mark = 1

// said answers what is said of the token: what its mac is of.
func said(t api.Token) []byte {
	w := code.NewWriter()
	w.U8(mark)
	w.Text(t.Name.Ns)
	w.Text(t.Name.Sa)
	w.Put(t.Uid, uint64(t.Host))
	w.U32(t.Addr)
	w.Put(t.Born, t.Until, t.Key)
	return w.Bytes()
}

// Bytes answers the token's bytes: ErrArg, if it may not be.
func Bytes(t api.Token) ([]byte, api.Errno) {
	if !May(t) {
		return nil, api.ErrArg
	}
	return append(said(t), t.Mac[:]...), api.OK
}

// Read answers the token whose bytes these are: ErrForm, if there is none.
func Read(b []byte) (api.Token, api.Errno) {
	r := reader{code.NewReader(b)}
	t := r.token()
	if r.End() != api.OK || !May(t) {
		return api.Token{}, api.ErrForm
	}
	return t, api.OK
}

// reader takes tokens from the front of bytes; they may be such as may not be.
type reader struct{ *code.Reader }

// token takes a token's fields, in their order.
func (r reader) token() api.Token {
	r.mark()
	t := api.Token{
		Name:  api.Name{Ns: r.Text(api.MaxLabel), Sa: r.Text(api.MaxLabel)},
		Uid:   r.Uint(),
		Host:  r.host(),
		Addr:  r.U32(),
		Born:  r.Uint(),
		Until: r.Uint(),
		Key:   r.Uint(),
	}
	copy(t.Mac[:], r.Raw(len(t.Mac)))
	return t
}

// mark takes the first byte of a token.
func (r reader) mark() {
	if r.U8() != mark {
		r.Fail()
	}
}

// host takes a node's number.
func (r reader) host() int {
	x := r.Uint()
	// One that is too great for an int would become another node's.
	if x > api.MaxNodes {
		r.Fail()
		return 0
	}
	return int(x)
}
