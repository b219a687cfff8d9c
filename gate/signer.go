package gate

import (
	"strings"

	"dovecote/api"
	"dovecote/keyed"
	"dovecote/mail"
)

const (
	keyLong = 32     // bytes
	purpose = "gate" // a piece of each tag: so that no tag that the key makes for anything else is one
	noTag   = "\x00\x00\x00\x00\x00\x00\x00\x00\x00\x00\x00\x00\x00\x00\x00\x00\x00\x00\x00\x00\x00\x00\x00\x00\x00\x00\x00\x00\x00\x00\x00\x00"
)

// signer is an account, and the greatest Seq that was admitted of it.
type signer struct {
	api.Account
	last int
}

func newSigner(a api.Account) signer {
	a.Key = strings.Clone(a.Key)
	return signer{Account: a}
}

// sign reads the message from its text: so it shares nothing with what was handed in. The error is passed over, as what was encoded is decoded.
func (s *signer) sign(text string) api.Mail {
	m, _ := mail.Decode(text)
	m.Tag = s.tag(text)
	return m
}

// signed is whether a tag is this one's of a text.
func (s *signer) signed(tag, text string) bool {
	return keyed.Same(tag, s.tag(text))
}

func (s *signer) tag(text string) string {
	return keyed.Tag(s.Key, purpose, text)
}

// goOn refuses a Seq that is not above all that were admitted: so nothing is admitted twice.
func (s *signer) goOn(seq int) api.Errno {
	if seq <= s.last {
		return api.ErrSeen
	}
	s.last = seq
	return api.OK
}

// untagged is the text of a pull, or of an ack, with bytes 0 in the place of its tag. All other kinds are refused by that: none of them may have a tag.
func untagged(m api.Mail) (string, api.Errno) {
	m.Tag = noTag
	return mail.Encode(m)
}
