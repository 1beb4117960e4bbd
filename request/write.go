package request

import (
	"strconv"

	"gatepost/api"
	"gatepost/heads"
)

const (
	lineEnd   = "\r\n"
	firstByte = 32  // the least byte of a first line that is written
	lastByte  = 126 // the greatest one
)

// Write answers the message's bytes: ErrArg, if its first line or its headers may not be, or its body is not as these tell.
func Write(r api.Raw) ([]byte, api.Errno) {
	end, framed := frame(r)
	if !framed || !mayStart(r.Start) {
		return nil, api.ErrArg
	}
	text := r.Start + lineEnd
	for _, h := range r.Heads {
		line, _ := heads.Line(h)
		text += line + lineEnd
	}
	b := append([]byte(text), lineEnd...)
	if end.Chunked == 1 {
		return appendChunks(b, r.Body), api.OK
	}
	return append(b, r.Body...), api.OK
}

// mayStart tells whether the text may be a first line that is written.
func mayStart(s string) bool {
	if s == "" || len(s) > longest {
		return false
	}
	for i := range len(s) {
		if s[i] < firstByte || s[i] > lastByte {
			return false
		}
	}
	return true
}

// frame answers how the end of the message's body is told; not ok, if its headers may not be, or tell of another body.
func frame(r api.Raw) (api.BodyEnd, bool) {
	end, err := heads.Framing(r.Heads...)
	if err != api.OK || !heads.May(r.Heads...) {
		return api.BodyEnd{}, false
	}
	if end.Chunked == 1 {
		return end, len(r.Body) <= api.MaxBody
	}
	return end, len(r.Body) == end.Length // none, if nothing tells of it
}

// appendChunks answers b with the body behind it, by one chunk and the last one.
func appendChunks(b, body []byte) []byte {
	if len(body) > 0 { // a chunk without bytes would be the last one
		b = append(b, strconv.FormatInt(int64(len(body)), sizeBase)+lineEnd...)
		b = append(b, body...)
		b = append(b, lineEnd...)
	}
	return append(b, lastChunk+lineEnd+lineEnd...)
}
