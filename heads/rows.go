package heads

import (
	"strings"

	"gatepost/api"
)

// Get answers the first value of that name, and whether there is one.
func Get(name string, l ...api.Head) (string, bool) {
	for _, h := range l {
		if h.Name == name {
			return strings.Clone(h.Value), true
		}
	}
	return "", false
}

// All answers all values of that name, in their order.
func All(name string, l ...api.Head) []string {
	var values []string
	for _, h := range kept(l, func(h api.Head) bool { return h.Name == name }) {
		values = append(values, h.Value)
	}
	return values
}

// Add answers the headers with that one behind: ErrArg, if it may not be; ErrFull, if there is no room for it.
func Add(l []api.Head, h api.Head) ([]api.Head, api.Errno) {
	switch {
	case !mayOne(h):
		return nil, api.ErrArg
	case len(l) >= api.MaxHeads:
		return nil, api.ErrFull
	}
	all := kept(l, func(api.Head) bool { return true })
	return append(all, own(h)), api.OK
}

// Del answers the headers but those of that name.
func Del(name string, l ...api.Head) []api.Head {
	return kept(l, func(h api.Head) bool { return h.Name != name })
}

// kept answers the headers that stay, in memory of their own.
func kept(l []api.Head, stays func(api.Head) bool) []api.Head {
	var left []api.Head
	for _, h := range l {
		if stays(h) {
			left = append(left, own(h))
		}
	}
	return left
}
