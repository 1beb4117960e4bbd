package match

import (
	"strings"

	"gatepost/api"
)

// Print answers the term's text: ErrArg, if the term may not be.
func Print(t api.Term) (string, api.Errno) {
	k, ok := kindOf(t)
	if !ok {
		return "", api.ErrArg
	}
	// With nothing on its two sides the text would be in the term's own memory.
	return strings.Clone(k.ahead + t.Text + k.behind), api.OK
}

// Parse answers the term whose text is s: ErrForm, if there is none.
func Parse(s string) (api.Term, api.Errno) {
	for number, k := range kinds() {
		t := api.Term{Kind: number, Text: within(s, k)}
		if text, err := Print(t); err == api.OK && text == s {
			t.Text = strings.Clone(t.Text) // a piece of a text would keep the whole of it
			return t, api.OK
		}
	}
	return api.Term{}, api.ErrForm
}

// within answers s without what texts of terms of that kind have on their two sides.
func within(s string, k kind) string {
	return strings.TrimSuffix(strings.TrimPrefix(s, k.ahead), k.behind)
}
