package addr

import (
	"strconv"
	"strings"

	"gatepost/api"
)

// Mask answers the number whose first so many bits are 1, the others 0.
func Mask(bits int) uint32 {
	bits = min(max(bits, 0), wide)
	return ^uint32(0) << (wide - bits)
}

// around answers the net of so many bits in which the address is.
func around(a uint32, bits int) api.Cidr {
	return api.Cidr{Addr: a & Mask(bits), Bits: bits}
}

// May tells whether the net may be.
func May(c api.Cidr) bool {
	return c.Bits >= 0 && c.Bits <= wide && c == around(c.Addr, c.Bits)
}

// In tells whether the address is in the net: in one that may not be there is none.
func In(c api.Cidr, a uint32) bool {
	return May(c) && c == around(a, c.Bits)
}

// Covers tells whether both nets may be, and each address of d is in c.
func Covers(c, d api.Cidr) bool {
	return May(d) && c.Bits <= d.Bits && In(c, d.Addr)
}

// First answers the least address of a net, and whether that may be.
func First(c api.Cidr) (uint32, bool) {
	if !May(c) {
		return 0, false
	}
	return c.Addr, true
}

// Last answers the greatest address of a net, and whether that may be.
func Last(c api.Cidr) (uint32, bool) {
	if !May(c) {
		return 0, false
	}
	return c.Addr | ^Mask(c.Bits), true
}

// Halves answers the two nets that have, together, the net's addresses, the lower one first: none, and false, of a net of one address, or of one that may not be.
func Halves(c api.Cidr) ([]api.Cidr, bool) {
	if !May(c) || c.Bits == wide {
		return nil, false
	}
	low, high := halves(c)
	return []api.Cidr{low, high}, true
}

// halves answers the halves of a net that may be and has more than one address.
func halves(c api.Cidr) (low, high api.Cidr) {
	return around(c.Addr, c.Bits+1), around(c.Addr|^Mask(c.Bits), c.Bits+1)
}

// PrintNet answers the net as a text: none of one that may not be.
func PrintNet(c api.Cidr) string {
	if !May(c) {
		return ""
	}
	return Print(c.Addr) + "/" + strconv.Itoa(c.Bits)
}

// ParseNet answers the net whose text is s: ErrForm, if there is none that may be.
func ParseNet(s string) (api.Cidr, api.Errno) {
	head, tail, _ := strings.Cut(s, "/") // without a / the tail is empty, and no number
	a, err := Parse(head)
	bits, ok := number(tail, wide)
	c := api.Cidr{Addr: a, Bits: bits}
	if err != api.OK || !ok || !May(c) {
		return api.Cidr{}, api.ErrForm
	}
	return c, api.OK
}
