package parts

import (
	"dovecote/api"
	"dovecote/hash"
)

const (
	idLong     = 8 // bytes
	digestLong = 6
	pieceLong  = 200
	countMost  = (api.MaxBody + pieceLong - 1) / pieceLong // parts of a message

	// Where in a part's text things stand, behind the id.
	numberAt = idLong
	countAt  = numberAt + 1
	digestAt = countAt + 1
	pieceAt  = digestAt + digestLong
)

// name is a message's id: an array, so that what is kept of it is nobody else's.
type name [idLong]byte

// mark is what all parts of a message have alike.
type mark struct {
	id     name
	count  int
	digest [digestLong]byte
}

// part is what a part's text says.
type part struct {
	mark
	number int
	piece  string
}

func nameOf(id string) name {
	var n name
	copy(n[:], id)
	return n
}

func (n name) text() string { return string(n[:]) }

// markOf passes the error of Short over, as a digest has so many bytes.
func markOf(id name, body string) mark {
	m := mark{id: id, count: countOf(len(body))}
	digest, _ := hash.Short(digestLong, id.text(), body)
	copy(m.digest[:], digest)
	return m
}

// countOf is how many pieces a body of so many bytes has: one, if of none.
func countOf(long int) int {
	return max(1, (long+pieceLong-1)/pieceLong)
}

// pieceOf is the piece of a number that is below the body's count.
func pieceOf(body string, number int) string {
	return body[number*pieceLong : min((number+1)*pieceLong, len(body))]
}

func (p part) text() string {
	var b []byte
	b = append(b, p.id[:]...)
	b = append(b, byte(p.number), byte(p.count))
	b = append(b, p.digest[:]...)
	return string(append(b, p.piece...))
}

// read is the part of a text. Its piece is a piece of that text still.
func read(text string) (part, api.Errno) {
	if len(text) < pieceAt {
		return part{}, api.ErrPart
	}
	m := mark{id: nameOf(text[:idLong]), count: int(text[countAt])}
	copy(m.digest[:], text[digestAt:pieceAt])
	p := part{mark: m, number: int(text[numberAt]), piece: text[pieceAt:]}
	if !p.mayBe() {
		return part{}, api.ErrPart
	}
	return p, api.OK
}

// mayBe is whether a message may have such a part. No number is below a count of 0. As all pieces ahead of the last one are full, that tells how long the body is, and so how many there are.
func (p part) mayBe() bool {
	if p.count > countMost || p.number >= p.count {
		return false
	}
	if p.number < p.count-1 {
		return len(p.piece) == pieceLong
	}
	long := p.number*pieceLong + len(p.piece)
	return countOf(long) == p.count && long <= api.MaxBody
}
