package heads

import (
	"strconv"
	"strings"

	"gatepost/api"
)

const (
	lengthName = "content-length"
	codingName = "transfer-encoding"
	chunked    = "chunked" // the one coding that there is
	nought     = "0"
)

// Framing answers how the end of the headers' body is told: ErrForm, if that is not clear; ErrLong, if the body would be too long.
func Framing(l ...api.Head) (api.BodyEnd, api.Errno) {
	lengths, codings := All(lengthName, l...), All(codingName, l...)
	switch {
	case len(lengths)+len(codings) > 1: // whichever is taken, somebody else may take the other one
		return api.BodyEnd{}, api.ErrForm
	case len(lengths) == 1:
		return byLength(lengths[0])
	case len(codings) == 0:
		return api.BodyEnd{}, api.OK
	case small(codings[0]) == chunked:
		return api.BodyEnd{Chunked: 1}, api.OK
	}
	return api.BodyEnd{}, api.ErrForm
}

// byLength answers the frame of a body of that length.
func byLength(length string) (api.BodyEnd, api.Errno) {
	if !isNumber(length) {
		return api.BodyEnd{}, api.ErrForm
	}
	n, err := strconv.Atoi(length) // of digits alone none is an error but that they are too many
	if err != nil || n > api.MaxBody {
		return api.BodyEnd{}, api.ErrLong
	}
	return api.BodyEnd{Has: 1, Length: n}, api.OK
}

// isNumber tells whether the text is digits alone, with no nought ahead of others.
func isNumber(s string) bool {
	if s == "" || s != nought && strings.HasPrefix(s, nought) {
		return false
	}
	return !strings.ContainsFunc(s, func(c rune) bool { return c < '0' || c > '9' })
}
