package match

import (
	"strings"

	"gatepost/api"
)

// Implies tells whether b matches whatever a matches.
func Implies(a, b api.Term) bool {
	_, ok := Beside(a, b)
	return !ok
}

// Beside answers a text that a matches and b does not, and whether there is one.
func Beside(a, b api.Term) (string, bool) {
	if !May(a) {
		return "", false
	}
	// If anything is beside, one of these is: b does not ask for two unlike bytes at one place.
	put := [...]string{"", "a", "b"}
next:
	for _, behind := range put {
		for _, ahead := range put {
			s := ahead + a.Text + behind
			if !Matches(a, s) {
				continue next // more ahead of it does not mend that
			}
			if !Matches(b, s) {
				// With nothing put on its two sides it would be in a's own memory.
				return strings.Clone(s), true
			}
		}
	}
	return "", false
}
