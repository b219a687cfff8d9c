package gate_test

import (
	"crypto/hmac"
	"crypto/sha256"
	"encoding/binary"
	"fmt"
	"reflect"
	"strings"
	"testing"

	"dovecote/api"
	"dovecote/gate"
)

// Messages.

const greatest = 1<<31 - 1 // the greatest Seq

func zeros(many int) string { return strings.Repeat("\x00", many) }

// key is one of as many as one likes.
func key(k int) string { return fmt.Sprintf("the key of an account %10d", k) }

// id is one of as many as one likes.
func id(k int) string { return fmt.Sprintf("id %13d", k) }

func ids(many int) (l []string) {
	for k := range many {
		l = append(l, id(k))
	}
	return l
}

// pull and ack are messages that are not signed yet.
func pull(user, seq int) api.Mail {
	return api.Mail{Kind: api.MPull, User: user, Seq: seq}
}

func ack(user, seq int, l ...string) api.Mail {
	return api.Mail{Kind: api.MAck, User: user, Seq: seq, Ids: l}
}

// Plainly, by the chapter's words.

// text is chapter 11's, of a pull or an ack that may be.
func text(m api.Mail) string {
	s := string(binary.BigEndian.AppendUint32([]byte{byte(m.Kind), byte(m.User)}, uint32(m.Seq))) + m.Tag
	if m.Kind == 4 {
		s += strings.Join(m.Ids, "") + zeros(16*(4-len(m.Ids)))
	}
	return s
}

// tag is a pull's, or an ack's, under a key.
func tag(key string, m api.Mail) string {
	m.Tag = zeros(32)
	mac := hmac.New(sha256.New, []byte(key))
	mac.Write([]byte("gate"))
	mac.Write([]byte(text(m)))
	return string(mac.Sum(nil))
}

// signed is the message with its tag.
func signed(key string, m api.Mail) api.Mail {
	m.Tag = tag(key, m)
	return m
}

// mayBe is whether it is a pull, or an ack, that may be.
func mayBe(m api.Mail) bool {
	if m.User < 0 || m.User > 63 || m.Seq < 1 || m.Seq > greatest || len(m.Tag) != 32 || m.Text != "" || len(m.Slots) > 0 {
		return false
	}
	for _, s := range m.Ids {
		if len(s) != 16 || s == zeros(16) {
			return false
		}
	}
	return m.Kind == 2 && len(m.Ids) == 0 || m.Kind == 4 && len(m.Ids) <= 4
}

// check is 20.1.
func check(l []api.Account) (int, api.Errno) {
	if len(l) > 64 {
		return -1, api.ErrLong
	}
	there := map[int]bool{}
	for i, a := range l {
		switch {
		case a.User < 0 || a.User > 63:
			return i, api.ErrRange
		case there[a.User]:
			return i, api.ErrThere
		case len(a.Key) != 32:
			return i, api.ErrForm
		}
		there[a.User] = true
	}
	return 0, api.OK
}

// sign is 20.2.
func sign(key string, m api.Mail) (api.Mail, api.Errno) {
	if len(key) != 32 {
		return api.Mail{}, api.ErrForm
	}
	m.Tag = zeros(32)
	if !mayBe(m) {
		return api.Mail{}, api.ErrMail
	}
	return signed(key, m), api.OK
}

// plainGate is a gate by the chapter's words.
type plainGate struct {
	keys map[int]string
	last map[int]int
}

func newPlain(l []api.Account) (*plainGate, api.Errno) {
	if _, e := check(l); e != api.OK {
		return nil, e
	}
	p := &plainGate{map[int]string{}, map[int]int{}}
	for _, a := range l {
		p.keys[a.User] = a.Key
	}
	return p, api.OK
}

// admit is 20.3.
func (p *plainGate) admit(m api.Mail) api.Errno {
	if !mayBe(m) {
		return api.ErrMail
	}
	key, there := p.keys[m.User]
	switch {
	case !there || m.Tag != tag(key, m):
		return api.ErrAuth
	case m.Seq <= p.last[m.User]:
		return api.ErrSeen
	}
	p.last[m.User] = m.Seq
	return api.OK
}

func (p *plainGate) lastOf(user int) (int, api.Errno) {
	if _, there := p.keys[user]; !there {
		return 0, api.ErrAuth
	}
	return p.last[user], api.OK
}

// Both side by side.

// is fails unless the error is the one that is asked for.
func is(t *testing.T, got, want api.Errno) {
	t.Helper()
	if got != want {
		t.Fatalf("the error is %d; want %d", got, want)
	}
}

// same fails unless the messages are the same, whether lists without an element are nil or empty.
func same(t *testing.T, got, want api.Mail) {
	t.Helper()
	for _, m := range []*api.Mail{&got, &want} {
		if len(m.Ids) == 0 {
			m.Ids = nil
		}
		if len(m.Slots) == 0 {
			m.Slots = nil
		}
	}
	if !reflect.DeepEqual(got, want) {
		t.Fatalf("the message is %#v; want %#v", got, want)
	}
}

// pair is a gate and a plain one of the same accounts.
type pair struct {
	t *testing.T
	g *gate.Gate
	p *plainGate
}

// opened fails if the accounts may not be.
func opened(t *testing.T, l ...api.Account) *pair {
	t.Helper()
	g, e := gate.New(l)
	is(t, e, api.OK)
	p, e := newPlain(l)
	is(t, e, api.OK)
	x := &pair{t, g, p}
	x.looks()
	return x
}

// looks fails unless Last and Has of each user are those of the plain gate.
func (x *pair) looks() {
	x.t.Helper()
	for user := -2; user < 66; user++ {
		x.looksAt(user)
	}
}

func (x *pair) looksAt(user int) {
	x.t.Helper()
	got, e := x.g.Last(user)
	want, we := x.p.lastOf(user)
	if got != want || e != we {
		x.t.Fatalf("of the user %d the last is %d, error %d; want %d, error %d", user, got, e, want, we)
	}
	if has := x.g.Has(user); has != (we == api.OK) {
		x.t.Fatalf("the user %d has an account: %v", user, has)
	}
}

// admit holds the answer, and the gate behind it, against the plain gate.
func (x *pair) admit(m api.Mail) api.Errno {
	x.t.Helper()
	e, want := x.g.Admit(m), x.p.admit(m)
	if e != want {
		x.t.Fatalf("of %#v the error is %d; want %d", m, e, want)
	}
	x.looks()
	return e
}

// sign holds the answer against the plain one.
func (x *pair) sign(key string, m api.Mail) (api.Mail, api.Errno) {
	x.t.Helper()
	got, e := gate.Sign(key, m)
	want, we := sign(key, m)
	is(x.t, e, we)
	same(x.t, got, want)
	x.looks()
	return got, e
}

// admits signs by Sign, and fails unless it is let in.
func (x *pair) admits(key string, l ...api.Mail) {
	x.t.Helper()
	for _, m := range l {
		s, e := x.sign(key, m)
		is(x.t, e, api.OK)
		is(x.t, x.admit(s), api.OK)
	}
}

// refuses fails unless each is refused for this.
func (x *pair) refuses(want api.Errno, l ...api.Mail) {
	x.t.Helper()
	for _, m := range l {
		is(x.t, x.admit(m), want)
	}
}

// lasts fails unless that is the last one of a user.
func (x *pair) lasts(user, want int) {
	x.t.Helper()
	got, e := x.g.Last(user)
	is(x.t, e, api.OK)
	if got != want {
		x.t.Fatalf("the last of the user %d is %d; want %d", user, got, want)
	}
}
