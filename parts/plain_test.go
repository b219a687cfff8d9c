package parts_test

import (
	"crypto/sha256"
	"fmt"
	"math/rand"
	"slices"
	"strings"
	"testing"

	"dovecote/api"
	"dovecote/parts"
)

// Messages.

// message is one that may be cut.
type message struct{ id, body string }

// id is one of as many as one likes.
func id(k int) string { return fmt.Sprintf("id %5d", k) }

// body has so many drawn bytes, the same ones for the same k.
func body(k, long int) string {
	return drawnText(rand.New(rand.NewSource(int64(k))), long)
}

// drawnText has any bytes.
func drawnText(by *rand.Rand, long int) string {
	b := make([]byte, long)
	by.Read(b)
	return string(b)
}

// turned is the text with the byte at a place xor another.
func turned(s string, at int, by byte) string {
	return s[:at] + string([]byte{s[at] ^ by}) + s[at+1:]
}

// Plainly, by the chapter's words.

// digest is chapter 3's Short of six bytes, by the library.
func digest(id, body string) string {
	d := sha256.Sum256([]byte(id + body))
	return string(d[:6])
}

// text is a part's, whatever it says.
func text(id string, number, count int, digest, piece string) string {
	return id + string([]byte{byte(number), byte(count)}) + digest + piece
}

// cut is 22.1.
func cut(id, body string) (l []string, e api.Errno) {
	if len(id) != 8 {
		return nil, api.ErrForm
	}
	if len(body) > 2048 {
		return nil, api.ErrLong
	}
	var pieces []string
	for len(body) > 200*len(pieces)+200 {
		pieces = append(pieces, body[200*len(pieces):200*len(pieces)+200])
	}
	pieces = append(pieces, body[200*len(pieces):])
	for number, piece := range pieces {
		l = append(l, text(id, number, len(pieces), digest(id, body), piece))
	}
	return l, api.OK
}

// cuts asks for a message that may be cut.
func cuts(m message) []string {
	l, e := cut(m.id, m.body)
	if e != api.OK {
		panic("that may not be cut")
	}
	return l
}

// partsOf are those of a message of an id, and of a body of so many bytes.
func partsOf(id string, long int) []string {
	return cuts(message{id, body(long, long)})
}

// forged are the parts of a message whose digest is not its own.
func forged(id string, long int) []string {
	l := partsOf(id, long)
	for i := range l {
		l[i] = turned(l[i], 15, 1)
	}
	return l
}

// isPart is whether it is a part's text.
func isPart(s string) bool {
	if len(s) < 16 {
		return false
	}
	number, count, long := int(s[8]), int(s[9]), len(s)-16
	switch {
	case count < 1, count > 11, number >= count:
		return false
	case long > 200:
		return false
	case long < 200 && number != count-1:
		return false
	case long == 0 && number == count-1 && count > 1:
		return false
	case number == count-1 && count == 11 && long > 48:
		return false
	}
	return true
}

// plainMessage is one that is not whole.
type plainMessage struct {
	id, digest string
	count      int
	pieces     map[int]string
}

// plain is a joiner by the chapter's words.
type plain struct {
	most, noted int
	waits       []plainMessage
	told        []string
}

func newPlain(most, noted int) (*plain, api.Errno) {
	for _, n := range []int{most, noted} {
		if n < 1 || n > 1024 {
			return nil, api.ErrRange
		}
	}
	return &plain{most: most, noted: noted}, api.OK
}

// take is 22.2.
func (p *plain) take(s string) (parts.Told, bool, api.Errno) {
	none := parts.Told{}
	if !isPart(s) {
		return none, false, api.ErrPart
	}
	id, number, count, digested, piece := s[:8], int(s[8]), int(s[9]), s[10:16], s[16:]
	if slices.Contains(p.told, id) {
		return none, false, api.ErrThere
	}
	at := slices.IndexFunc(p.waits, func(m plainMessage) bool { return m.id == id })
	if at >= 0 {
		if p.waits[at].count != count || p.waits[at].digest != digested {
			return none, false, api.ErrPart
		}
		if _, there := p.waits[at].pieces[number]; there {
			return none, false, api.ErrThere
		}
	} else {
		if len(p.waits) == p.most {
			p.waits = p.waits[1:]
		}
		at = len(p.waits)
		p.waits = append(p.waits, plainMessage{id, digested, count, map[int]string{}})
	}
	m := p.waits[at]
	m.pieces[number] = piece
	if len(m.pieces) < count {
		return none, false, api.OK
	}
	p.waits = slices.Concat(p.waits[:at], p.waits[at+1:])
	whole := ""
	for k := range count {
		whole += m.pieces[k]
	}
	if digest(id, whole) != digested {
		return none, false, api.ErrPart
	}
	if len(p.told) == p.noted {
		p.told = p.told[1:]
	}
	p.told = append(p.told, id)
	return parts.Told{Id: id, Body: whole}, true, api.OK
}

// Both side by side.

// is fails unless the error is the one that is asked for.
func is(t *testing.T, got, want api.Errno) {
	t.Helper()
	if got != want {
		t.Fatalf("the error is %d; want %d", got, want)
	}
}

// pair is a joiner and a plain one with the same room.
type pair struct {
	t *testing.T
	j *parts.Joiner
	p *plain
}

// opened fails unless there are such joiners.
func opened(t *testing.T, most, noted int) *pair {
	t.Helper()
	j, e := parts.New(most, noted)
	is(t, e, api.OK)
	p, e := newPlain(most, noted)
	is(t, e, api.OK)
	x := &pair{t, j, p}
	x.waits(0)
	return x
}

// take holds the answer, and how many messages wait behind it, against the plain joiner.
func (x *pair) take(s string) (parts.Told, bool, api.Errno) {
	x.t.Helper()
	told, whole, e := x.j.Take(s)
	want, wantWhole, we := x.p.take(strings.Clone(s)) // as it keeps it
	if told != want || whole != wantWhole || e != we {
		x.t.Fatalf("of %.20q (%d bytes) the answer is %q, %v, error %d; want %q, %v, error %d", s, len(s), told, whole, e, want, wantWhole, we)
	}
	x.waits(len(x.p.waits))
	return told, whole, e
}

// waits fails unless so many messages are not whole.
func (x *pair) waits(want int) {
	x.t.Helper()
	if got := x.j.Waits(); got != want {
		x.t.Fatalf("%d messages wait; want %d", got, want)
	}
}

// keeps fails unless each part is taken, and none of them makes a message whole.
func (x *pair) keeps(l ...string) {
	x.t.Helper()
	for _, s := range l {
		if _, whole, e := x.take(s); whole || e != api.OK {
			x.t.Fatalf("of %.20q the answer is %v, error %d; want a part that is kept", s, whole, e)
		}
	}
}

// tells fails unless the part makes this message whole.
func (x *pair) tells(s string, want message) {
	x.t.Helper()
	told, whole, e := x.take(s)
	if told != (parts.Told{Id: want.id, Body: want.body}) || !whole || e != api.OK {
		x.t.Fatalf("of %.20q the answer is %q, %v, error %d; want %q", s, told, whole, e, want)
	}
}

// tellsAll fails unless the message is told with the last of its parts.
func (x *pair) tellsAll(m message) {
	x.t.Helper()
	l := cuts(m)
	x.keeps(l[:len(l)-1]...)
	x.tells(l[len(l)-1], m)
}

// refuses fails unless each is refused for this.
func (x *pair) refuses(want api.Errno, l ...string) {
	x.t.Helper()
	for _, s := range l {
		if _, _, e := x.take(s); e != want {
			x.t.Fatalf("of %.20q (%d bytes) the error is %d; want %d", s, len(s), e, want)
		}
	}
}
