package path

import (
	"iter"
	"strings"
)

const (
	slash = "/"  // what stands between two segments
	here  = "."  // a segment that leads nowhere
	above = ".." // a segment that leads back from the one ahead of it
)

// segments answers what stands between the road's slashes, ahead of the first one and behind the last one, in turn.
func segments(road string) iter.Seq[string] {
	return func(yield func(string) bool) {
		s, rest, more := strings.Cut(road, slash)
		for yield(s) && more {
			s, rest, more = strings.Cut(rest, slash)
		}
	}
}

// left answers which of the road's segments are left, and whether they are followed by a /; not ok, if the road leads out above its first one.
func left(road string) (l []string, dir, ok bool) {
	for s := range segments(road) {
		dir = s == "" || s == here || s == above
		switch {
		case !dir:
			l = append(l, s)
		case s == above && len(l) == 0:
			return nil, false, false
		case s == above:
			last := len(l) - 1
			l = l[:last:last] // what is left out stands in no room behind the rest
		}
	}
	return l, dir, true
}

// joined answers / and the segments, with a / between each two, and behind them, if dir and there is one.
func joined(dir bool, l []string) string {
	path := slash + strings.Join(l, slash)
	if dir && len(l) > 0 {
		path += slash
	}
	return path
}
