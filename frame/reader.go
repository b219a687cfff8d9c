package frame

import (
	"bytes"

	"dovecote/api"
)

// waitMost is how many bytes a reader may have that were not told.
const waitMost = 1 << 20

// Reader cuts what it takes into frames. As long as it is not broken, the four bytes that it has at the front, if it has them, tell a length that may be.
type Reader struct {
	waits  []byte // what was taken and not told
	spent  int    // bytes told since waits had memory of its own: so many at most lie ahead of it
	broken bool
}

// New is a reader that has taken nothing.
func New() *Reader { return &Reader{} }

// Take answers OK also if the chunk breaks the reader: it was taken.
func (r *Reader) Take(chunk string) api.Errno {
	if r.broken {
		return api.ErrFrame
	}
	if len(chunk) > waitMost-len(r.waits) {
		return api.ErrLong
	}
	r.waits = append(r.waits, chunk...)
	r.look()
	return api.OK
}

// Next is the text of the next frame that was not told, if that is whole.
func (r *Reader) Next() (text string, ok bool) {
	long, ok := r.long()
	if !ok || len(r.waits)-headLong < int(long) {
		return "", false
	}
	end := headLong + int(long)
	text = string(r.waits[headLong:end])
	r.drop(end)
	r.look()
	return text, true
}

// Waits is how many bytes the reader has that were not told.
func (r *Reader) Waits() int { return len(r.waits) }

// Fork is another reader that has what this one has, and goes its own way.
func (r *Reader) Fork() *Reader {
	return &Reader{waits: bytes.Clone(r.waits), broken: r.broken}
}

// long is what the four bytes at the front tell; false, if they are not all there. Its kind has room for all that they can tell.
func (r *Reader) long() (uint32, bool) {
	w := r.waits
	if len(w) < headLong {
		return 0, false
	}
	return uint32(w[0])<<24 | uint32(w[1])<<16 | uint32(w[2])<<8 | uint32(w[3]), true
}

// look breaks the reader, if no frame can begin as what it has does. All that changes the front calls it.
func (r *Reader) look() {
	if long, ok := r.long(); ok && long > textMost {
		*r = Reader{broken: true}
	}
}

// drop takes what was told from the front. The rest is moved once more was told than it has: so all in all fewer bytes are moved than are told, and what was told is not kept for long.
func (r *Reader) drop(n int) {
	r.waits = r.waits[n:]
	r.spent += n
	if r.spent > len(r.waits) {
		r.waits, r.spent = bytes.Clone(r.waits), 0
	}
}
