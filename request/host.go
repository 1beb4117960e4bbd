package request

import (
	"strconv"
	"strings"
	"unicode/utf8"

	"gatepost/api"
)

const (
	hostLetters = "abcdefghijklmnopqrstuvwxyz0123456789.-" // what hosts are made of, ahead of a port
	portSign    = ":"                                      // what a port stands behind
	nought      = "0"
)

// MayHost tells whether the text may be a host. A colon and a port are among its MaxText bytes, so that each host has room in a term.
func MayHost(s string) bool {
	host, port, has := strings.Cut(s, portSign)
	if host == "" || len(s) > api.MaxText || strings.Trim(host, hostLetters) != "" {
		return false
	}
	return !has || mayPort(port)
}

// mayPort tells whether the text is a port's number, in its one form.
func mayPort(s string) bool {
	_, err := strconv.ParseUint(s, 10, 16)
	return err == nil && !strings.HasPrefix(s, nought)
}

// mayHostPort tells whether the text may be a host with a port.
func mayHostPort(s string) bool {
	return MayHost(s) && strings.Contains(s, portSign)
}

// small answers the text with a to z in the place of A to Z. One with letters of more than a byte stays as it is: the library would make some of them a to z, too.
func small(s string) string {
	if strings.ContainsFunc(s, func(c rune) bool { return c >= utf8.RuneSelf }) {
		return s
	}
	return strings.ToLower(s)
}
