package parts

import (
	"strings"

	"dovecote/api"
)

// message is one of which parts came.
type message struct {
	mark
	pieces  []string // by their numbers: empty, as long as the part did not come
	missing int
}

func begun(m mark) *message {
	return &message{mark: m, pieces: make([]string, m.count), missing: m.count}
}

// take keeps a part of this id. That its piece is empty does not show afterwards, but such a part is all of its message.
func (m *message) take(p part) api.Errno {
	switch {
	case m.mark != p.mark:
		return api.ErrPart
	case m.pieces[p.number] != "":
		return api.ErrThere
	}
	m.pieces[p.number] = strings.Clone(p.piece)
	m.missing--
	return api.OK
}

func (m *message) body() string { return strings.Join(m.pieces, "") }
