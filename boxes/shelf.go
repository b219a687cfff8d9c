package boxes

import (
	"slices"
	"strings"

	"dovecote/api"
)

const (
	putSign  = "P" // that a record of an entry begins with
	ackSign  = "A"
	idLong   = 16  // bytes
	textMost = 222 // bytes
	userLong = 1
)

// shelf is the boxes of all users. It is copied whole ahead of a change, and a box in it is made anew, so that the boxes stay as they were where the change is refused.
type shelf [api.MaxUsers]box

// box is entries, the oldest first.
type box []api.Slot

func isUser(user int) bool { return user >= 0 && user < api.MaxUsers }

func isId(id string) bool {
	return len(id) == idLong && strings.Trim(id, "\x00") != ""
}

func isText(text string) bool { return len(text) <= textMost }

// behind is the boxes that records make of these, and whether all records may be.
func (s shelf) behind(records ...string) (shelf, bool) {
	for _, record := range records {
		if !s.take(record) {
			return shelf{}, false
		}
	}
	return s, true
}

// take lets a record happen, and keeps parts of it: it must not be anybody else's. One that may not be changes nothing.
func (s *shelf) take(record string) bool {
	if b, ok := strings.CutPrefix(record, putSign); ok && len(b) >= userLong+idLong {
		return s.put(int(b[0]), b[userLong:userLong+idLong], b[userLong+idLong:])
	}
	if b, ok := strings.CutPrefix(record, ackSign); ok && len(b) == userLong+idLong {
		return s.ack(int(b[0]), b[userLong:])
	}
	return false
}

func (s *shelf) put(user int, id, text string) bool {
	if !isUser(user) || !isId(id) || !isText(text) || s[user].has(id) {
		return false
	}
	s[user] = append(slices.Clip(s[user]), api.Slot{Id: id, Text: text})
	return true
}

func (s *shelf) ack(user int, id string) bool {
	if !isUser(user) || !s[user].has(id) {
		return false
	}
	at := s[user].find(id)
	s[user] = slices.Concat(s[user][:at], s[user][at+1:])
	return true
}

// short is the records of the short log: they make the same, without what is there no more.
func (s *shelf) short() []string {
	var l []string
	for user, b := range s {
		for _, x := range b {
			l = append(l, putRecord(user, x.Id, x.Text))
		}
	}
	return l
}

// find is the place of the entry with an id; below 0: there is none.
func (b box) find(id string) int {
	return slices.IndexFunc(b, func(x api.Slot) bool { return x.Id == id })
}

func (b box) has(id string) bool { return b.find(id) >= 0 }

func putRecord(user int, id, text string) string { return putSign + userByte(user) + id + text }

func ackRecord(user int, id string) string { return ackSign + userByte(user) + id }

func userByte(user int) string { return string([]byte{byte(user)}) }
