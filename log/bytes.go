package log

import (
	"strings"

	"dovecote/api"
	"dovecote/hash"
)

const (
	title          = "LOG\x00" // that a head begins with
	generationLong = 4         // bytes
	lengthLong     = 2         // bytes of a text's length
	markLong       = 16
	textAt         = lengthLong + markLong // of a record
)

// headFront is the part of a head that its mark is made of.
func headFront(generation int) string { return title + number(generation, generationLong) }

func headMark(generation int) string { return mark(headFront(generation)) }

// head is a half's first sector.
func head(generation int) string {
	return padded(headFront(generation) + headMark(generation))
}

// generationOf is that of the head which b begins with; 0, if that is not right. A number past the last generation is none: there Compact could neither go on nor say that it is the last.
func generationOf(b string) int {
	n := 0
	for i := range generationLong {
		n = n<<8 | int(b[len(title)+i])
	}
	if n > generationMost || !strings.HasPrefix(b, head(n)) {
		return 0
	}
	return n
}

// record is a text, and the mark that ties it to all records ahead.
type record struct {
	mark, text string
}

// next is the record of a text behind a mark.
func next(ahead, text string) record {
	return record{mark(ahead, number(len(text), lengthLong), text), text}
}

// sectors is the record as it lies on the disk.
func (r record) sectors() string {
	return padded(number(len(r.text), lengthLong) + r.mark + r.text)
}

// recordOf is the record that b begins with, if it is right: it is made anew, and held against the bytes that are there.
func recordOf(b, ahead string) (record, bool) {
	if len(b) < api.Sector {
		return record{}, false
	}
	long := int(b[0])<<8 | int(b[1])
	if long < 1 || long > textMost || textAt+long > len(b) {
		return record{}, false
	}
	r := next(ahead, b[textAt:textAt+long])
	if !strings.HasPrefix(b, r.sectors()) {
		return record{}, false
	}
	return r, true
}

// sectorsOf is how many sectors a text's record takes.
func sectorsOf(text string) int { return (textAt + len(text) + api.Sector - 1) / api.Sector }

// padded brings bytes up to a sector's end.
func padded(b string) string {
	return b + zeros((api.Sector-len(b)%api.Sector)%api.Sector)
}

func zeros(many int) string { return strings.Repeat("\x00", many) }

// number is n in so many bytes, the highest first.
func number(n, long int) string {
	b := make([]byte, long)
	for i := range b {
		b[i] = byte(n >> (8 * (long - 1 - i)))
	}
	return string(b)
}

// mark is the beginning of a digest. It has a length that a digest's beginning may have, so that there is no error.
func mark(pieces ...string) string {
	s, _ := hash.Short(markLong, pieces...)
	return s
}
