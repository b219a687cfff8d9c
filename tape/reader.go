package tape

import (
	"strings"

	"dovecote/api"
)

// wordLong is how many bytes a word has.
const wordLong = 4

// reader has a text, and counts how many bytes of it were read: never more than there are.
type reader struct {
	text string
	read int
}

// readerOf copies the text: a reader must not hold what it is a piece of.
func readerOf(text string) reader {
	return reader{text: strings.Clone(text)}
}

// rest is the bytes that are left.
func (r *reader) rest() string { return r.text[r.read:] }

// take is the next n bytes, n being 0 or more. All that reads a tape goes by it: so nothing is read where too few are left.
func (r *reader) take(n int) (string, api.Errno) {
	rest := r.rest()
	if n > len(rest) {
		return "", api.ErrTape
	}
	r.read += n
	return rest[:n], api.OK
}

// word is the next four bytes as a number, the highest first.
func (r *reader) word() (uint32, api.Errno) {
	b, e := r.take(wordLong)
	if e != api.OK {
		return 0, e
	}
	return uint32(b[0])<<24 | uint32(b[1])<<16 | uint32(b[2])<<8 | uint32(b[3]), api.OK
}
