package lines

import (
	"bytes"
	"slices"

	"assayer/api"
)

const (
	feed   = '\n' // ends a line
	goBack = '\r' // right ahead of that it is no part of the line
)

// room is for the longest line that may be, the byte 13 behind it, and one byte more: by that one it is known that a line is too long, whatever else comes.
const room = api.MaxLine + 2

// keep adds what there is room for.
func (r *Reader) keep(b []byte) {
	r.kept = append(r.kept, b[:min(len(b), room-len(r.kept))]...)
}

// line is the one that is kept, now that it is whole, and whether it may be; it is empty if not.
func (r *Reader) line() (string, bool) {
	b := bytes.TrimSuffix(r.kept, []byte{goBack})
	if !mayBe(b) {
		return "", false
	}
	return string(b), true
}

// forget clears what is kept, so that nothing of a line is there behind its end.
func (r *Reader) forget() {
	clear(r.kept)
	r.kept = r.kept[:0]
}

// mayBe tells whether a line may be.
func mayBe(b []byte) bool {
	return len(b) <= api.MaxLine && !slices.ContainsFunc(b, isStrange)
}

// isStrange tells whether a byte has no place in a line.
func isStrange(c byte) bool { return c < ' ' && c != '\t' || c > '~' }
