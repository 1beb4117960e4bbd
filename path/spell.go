package path

import (
	"strconv"
	"strings"
)

const (
	ask     = "?"            // what a query stands behind
	percent = '%'            // what a byte's two digits stand behind
	said    = len("%00")     // how many bytes say one
	never   = "\"#<>\\^`{|}" // the bytes from 33 to 126 that stand in no target
	plain   = "-._~"         // the bytes beside letters and digits that no path says by a %
)

// spell answers the text with each byte that is said by a % in its one form; not ok, if a byte of it stands in no target, or one that is said is one of the bad.
func spell(text string, bad func(byte) bool) (string, bool) {
	b := make([]byte, 0, len(text))
	i := 0
bytes:
	for i < len(text) {
		c := text[i]
		switch {
		case c == percent:
			x, ok := saidBy(text[i:])
			if !ok || bad(x) {
				break bytes
			}
			if isPlain(x) {
				b = append(b, x)
			} else {
				b = append(b, strings.ToUpper(text[i:i+said])...)
			}
			i += said
		case mayStand(c):
			b = append(b, c)
			i++
		default:
			break bytes
		}
	}
	return string(b), i == len(text)
}

// saidBy answers the byte that the % at the text's beginning, and the two digits behind it, say, and whether these are there.
func saidBy(text string) (byte, bool) {
	if len(text) < said {
		return 0, false
	}
	x, err := strconv.ParseUint(text[1:said], 16, 8)
	return byte(x), err == nil
}

// isPlain tells whether the byte stands in a path itself, and is never said by a %.
func isPlain(c byte) bool {
	return 'a' <= c && c <= 'z' || 'A' <= c && c <= 'Z' || '0' <= c && c <= '9' || strings.IndexByte(plain, c) >= 0
}

// mayStand tells whether the byte, but for a %, may stand in a target.
func mayStand(c byte) bool {
	return 33 <= c && c <= 126 && strings.IndexByte(never, c) < 0
}

// noPathHas tells whether no path has the byte, even said by a %: who takes it for itself would be led elsewhere by it.
func noPathHas(c byte) bool {
	return c < 32 || c == 127 || c == '/' || c == '\\'
}

// none tells of each byte that it is not bad: a query may say all of them.
func none(byte) bool { return false }
