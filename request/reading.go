package request

import (
	"bytes"
	"strconv"
	"strings"

	"gatepost/api"
	"gatepost/heads"
)

// The phases of a reading: what the next byte is of.
const (
	ofFirst    = iota // the first line
	ofHeads           // a header's line, or the empty one behind them
	ofBody            // a body by its length
	ofSize            // the line with a chunk's size
	ofChunk           // a chunk
	ofChunkEnd        // the empty line behind it
	ofLastEnd         // the one behind the last chunk
	phases            // how many there are
)

const (
	carriageReturn = '\r'
	lineFeed       = '\n'
	longest        = api.MaxLine + api.MaxText + 2 // how many bytes a line has at most, as many as a header's
	lastChunk      = nought                        // the line of the chunk behind which no other one comes
	sizeBase       = 16                            // of the digits by which a chunk's size is told
	sizeBits       = 16                            // of the greatest number that four such digits tell
)

// reading is a parsing that is gone on with, and the messages that are whole since.
type reading struct {
	api.Parsing
	whole []api.Raw
}

// deeds answers what a line does that is whole, by its phase; bodies have no lines.
func deeds() [phases]func(*reading, string) {
	return [phases]func(*reading, string){
		ofFirst:    (*reading).first,
		ofHeads:    (*reading).head,
		ofSize:     (*reading).size,
		ofChunkEnd: (*reading).chunkEnd,
		ofLastEnd:  (*reading).lastEnd,
	}
}

// New answers a reading to which nothing has come.
func New() api.Parsing { return api.Parsing{} }

// Feed answers the reading as it is behind the bytes, and the messages that are whole by them.
func Feed(p api.Parsing, b []byte) (api.Parsing, []api.Raw) {
	r := reading{Parsing: own(p)}
	does := deeds()
taking:
	for _, c := range b {
		switch {
		case r.Err != api.OK:
			break taking
		case r.isStrange():
			r.fail(api.ErrForm)
			break taking
		case r.inBody():
			r.body(c)
			continue taking
		case !r.ends(c):
			continue taking
		}
		line := string(r.Line[:len(r.Line)-1]) // ends has told that its last byte is a carriage return
		r.Line = nil
		does[r.Phase](&r, line)
	}
	return r.Parsing, r.whole
}

// Idle tells whether the reading has no fault, and nothing of a message has come.
func Idle(p api.Parsing) bool {
	come := len(p.Line) + len(p.Raw.Start) + len(p.Raw.Heads) + len(p.Raw.Body)
	return p.Err == api.OK && p.Phase == ofFirst && p.Left == 0 && come == 0
}

// Raws answers the messages that the bytes are: if they are not just whole ones, the fault; ErrForm, if the last one is not whole.
func Raws(b []byte) ([]api.Raw, api.Errno) {
	p, l := Feed(New(), b)
	switch {
	case Idle(p):
		return l, api.OK
	case p.Err == api.OK:
		return nil, api.ErrForm
	}
	return nil, p.Err
}

// isStrange tells whether the reading is at no place to which bytes lead: one that was put together by hand.
func (r *reading) isStrange() bool {
	return r.Phase < 0 || r.Phase >= phases || r.inBody() && r.Left <= 0
}

// inBody tells whether the next byte is of a body, not of a line.
func (r *reading) inBody() bool { return r.Phase == ofBody || r.Phase == ofChunk }

// fail has the reading take nothing more.
func (r *reading) fail(e api.Errno) { r.Parsing = api.Parsing{Err: e} }

// finish puts the message to the whole ones, and has the reading begin anew.
func (r *reading) finish() {
	r.whole = append(r.whole, r.Raw)
	r.Parsing = New()
}

// body takes a byte of a body.
func (r *reading) body(c byte) {
	r.Raw.Body = append(r.Raw.Body, c)
	r.Left--
	switch {
	case r.Left == 0 && r.Phase == ofBody:
		r.finish()
	case r.Left == 0:
		r.Phase = ofChunkEnd
	}
}

// ends takes a byte of a line, and tells whether it is the line's last one.
func (r *reading) ends(c byte) bool {
	returned := bytes.HasSuffix(r.Line, []byte{carriageReturn})
	switch {
	case returned && c == lineFeed:
		return true
	case returned || c == lineFeed:
		r.fail(api.ErrForm)
		return false
	}
	r.Line = append(r.Line, c)
	if len(bytes.TrimSuffix(r.Line, []byte{carriageReturn})) > longest {
		r.fail(api.ErrLong)
	}
	return false
}

// first takes a message's first line.
func (r *reading) first(line string) {
	r.Raw.Start = line
	r.Phase = ofHeads
}

// head takes a header's line, or the empty one behind the headers.
func (r *reading) head(line string) {
	if line == "" {
		r.headsEnd()
		return
	}
	h, err := heads.Read(line)
	if err == api.OK {
		r.Raw.Heads, err = heads.Add(r.Raw.Heads, h)
	}
	if err != api.OK {
		r.fail(err)
	}
}

// headsEnd goes on with the body, as the headers tell of it.
func (r *reading) headsEnd() {
	end, err := heads.Framing(r.Raw.Heads...)
	switch {
	case err != api.OK:
		r.fail(err)
	case end.Chunked == 1:
		r.Phase = ofSize
	case end.Length > 0:
		r.Phase = ofBody
		r.Left = end.Length
	default:
		r.finish()
	}
}

// size takes the line with a chunk's size, or that of the last chunk.
func (r *reading) size(line string) {
	n, err := strconv.ParseUint(line, sizeBase, sizeBits)
	switch {
	case line == lastChunk:
		r.Phase = ofLastEnd
	case err != nil || strings.HasPrefix(line, nought):
		r.fail(api.ErrForm)
	case len(r.Raw.Body)+int(n) > api.MaxBody:
		r.fail(api.ErrLong)
	default:
		r.Phase = ofChunk
		r.Left = int(n)
	}
}

// chunkEnd takes the line behind a chunk.
func (r *reading) chunkEnd(line string) {
	if line != "" {
		r.fail(api.ErrForm)
		return
	}
	r.Phase = ofSize
}

// lastEnd takes the line behind the last chunk: there are no trailers.
func (r *reading) lastEnd(line string) {
	if line != "" {
		r.fail(api.ErrForm)
		return
	}
	r.finish()
}

// own answers the parsing in memory of its own.
func own(p api.Parsing) api.Parsing {
	p.Line = bytes.Clone(p.Line)
	p.Raw = ownRaw(p.Raw)
	return p
}

// ownRaw answers the message in memory of its own.
func ownRaw(r api.Raw) api.Raw {
	var l []api.Head
	for _, h := range r.Heads {
		l = append(l, api.Head{Name: strings.Clone(h.Name), Value: strings.Clone(h.Value)})
	}
	return api.Raw{Start: strings.Clone(r.Start), Heads: l, Body: bytes.Clone(r.Body)}
}
