package token

import (
	"slices"

	"gatepost/api"
	"gatepost/mac"
)

// maxRoot is how many bytes a ring's root has at most.
const maxRoot = 64

// keyLabel is what keys are made for of a root.
const keyLabel = "ca"

// MayRing tells whether the ring may be.
func MayRing(r api.Ring) bool {
	return len(r.Root) >= 1 && len(r.Root) <= maxRoot &&
		r.Oldest >= 1 && r.Oldest <= r.Newest && r.Newest <= api.MaxCount
}

// keyOf answers the ring's key of the number n.
func keyOf(r api.Ring, n uint64) []byte { return mac.Derive(r.Root, keyLabel, n) }

// Rotate answers the ring with one key more, the newest: ErrArg, if the ring may not be, ErrFull, if there is no number left for one.
func Rotate(r api.Ring) (api.Ring, api.Errno) {
	return turned(r, func(r *api.Ring) { r.Newest++ })
}

// Retire answers the ring without its oldest key: ErrArg, if the ring may not be, ErrFull, if it is the only one.
func Retire(r api.Ring) (api.Ring, api.Errno) {
	return turned(r, func(r *api.Ring) { r.Oldest++ })
}

// turned answers the ring as turn leaves it: ErrArg, if it may not be, ErrFull, if it may not be turned so.
func turned(r api.Ring, turn func(r *api.Ring)) (api.Ring, api.Errno) {
	if !MayRing(r) {
		return api.Ring{}, api.ErrArg
	}
	turn(&r)
	if !MayRing(r) {
		return api.Ring{}, api.ErrFull
	}
	r.Root = slices.Clone(r.Root)
	return r, api.OK
}
