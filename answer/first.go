package answer

import (
	"strconv"
	"strings"
)

const (
	version   = "HTTP/1.1"
	blank     = " " // what stands between the parts of an answer's first line
	leastCode = 200
	lastCode  = 599
	firstByte = 32  // the least byte of a reason
	lastByte  = 126 // the greatest one
	decimal   = "0123456789"
)

// Reason answers the code's reason.
func Reason(code int) string {
	switch code {
	case 200:
		return "OK"
	case 204:
		return "No Content"
	case 400:
		return "Bad Request"
	case 403:
		return "Forbidden"
	case 404:
		return "Not Found"
	case 502:
		return "Bad Gateway"
	case 503:
		return "Service Unavailable"
	}
	return "Other"
}

// mayCode tells whether the code may be.
func mayCode(code int) bool { return leastCode <= code && code <= lastCode }

// firstLine answers the first line of an answer of that code.
func firstLine(code int) string {
	return version + blank + digits(code) + blank + Reason(code)
}

// codeOf answers the code that an answer's first line tells, whatever its reason; not ok, if the line is none's.
func codeOf(line string) (code int, ok bool) {
	rest, versioned := strings.CutPrefix(line, version+blank)
	number, reason, parted := strings.Cut(rest, blank)
	n, err := strconv.Atoi(number)
	if !versioned || !parted || err != nil || !mayCode(n) || !mayReason(reason) {
		return 0, false
	}
	if digits(n) != number { // a sign, or a nought ahead
		return 0, false
	}
	return n, true
}

// mayReason tells whether the text may be a reason that is read.
func mayReason(s string) bool {
	return !strings.ContainsFunc(s, func(c rune) bool { return c < firstByte || c > lastByte })
}

// digits answers those of the number, which is not below 0.
func digits(n int) string {
	text := ""
	ahead := func(x int) { text = decimal[x:x+1] + text }
	base := len(decimal)
	ahead(n % base)
	for n /= base; n > 0; n /= base {
		ahead(n % base)
	}
	return text
}
