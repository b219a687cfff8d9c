package gate_test

import (
	"fmt"
	"math"
	"math/rand"
	"slices"
	"strings"
	"testing"

	"dovecote/api"
	"dovecote/gate"
	"dovecote/keyed"
	"dovecote/mail"
)

// accounts is one for each of these users, with a key of its own.
func accounts(users ...int) (l []api.Account) {
	for _, user := range users {
		l = append(l, api.Account{User: user, Key: key(user)})
	}
	return l
}

// all is every user there may be.
func all() (l []int) {
	for user := range 64 {
		l = append(l, user)
	}
	return l
}

// checks fails unless both Check and New tell this, and the plain ones too.
func checks(t *testing.T, l []api.Account, at int, e api.Errno) {
	t.Helper()
	if got, ge := gate.Check(l); got != at || ge != e {
		t.Fatalf("Check told %d, error %d; want %d, error %d", got, ge, at, e)
	}
	if got, ge := check(l); got != at || ge != e {
		t.Fatalf("plainly %d, error %d; want %d, error %d", got, ge, at, e)
	}
	g, ge := gate.New(l)
	if ge != e || (g == nil) != (e != api.OK) {
		t.Fatalf("New told the error %d; want %d; a gate: %v", ge, e, g != nil)
	}
}

// turned is the text with the byte at a place xor another.
func turned(s string, at int, by byte) string {
	return s[:at] + string([]byte{s[at] ^ by}) + s[at+1:]
}

// wrongUsers is numbers that no user has.
func wrongUsers() []int {
	return []int{-1, -2, -64, 64, 65, 127, 128, 255, 256, 259, 1 << 16, 1 << 31, 1<<32 + 3, math.MaxInt, math.MinInt}
}

// wrongKeys is texts that no account's key is.
func wrongKeys() (l []string) {
	for _, n := range []int{31, 33, 0, 1, 16, 34, 48, 63, 64, 65, 1 << 16} {
		l = append(l, strings.Repeat("k", n))
	}
	return append(l, strings.Repeat("é", 32))
}

// The chapter's example, and the shared words of it.

func TestExample(t *testing.T) {
	x := opened(t, accounts(3)...)
	for _, step := range []struct {
		seq  int
		want api.Errno
		last int
	}{{1, api.OK, 1}, {1, api.ErrSeen, 1}, {5, api.OK, 5}, {4, api.ErrSeen, 5}} {
		m, e := x.sign(key(3), pull(3, step.seq))
		is(t, e, api.OK)
		is(t, x.admit(m), step.want)
		x.lasts(3, step.last)
	}
}

// 20.1

func TestCheckTellsThatAllMayBe(t *testing.T) {
	checks(t, nil, 0, api.OK)
	checks(t, []api.Account{}, 0, api.OK)
	for user := range 64 {
		checks(t, accounts(user), 0, api.OK)
	}
	checks(t, accounts(63, 0, 7, 1), 0, api.OK)
	checks(t, accounts(all()...), 0, api.OK)
	backwards := all()
	slices.Reverse(backwards)
	checks(t, accounts(backwards...), 0, api.OK)
	one := strings.Repeat("k", 32)
	checks(t, []api.Account{{User: 1, Key: one}, {User: 2, Key: one}, {User: 3, Key: zeros(32)}, {User: 4, Key: strings.Repeat("\xff", 32)}, {User: 5, Key: strings.Repeat("é", 16)}}, 0, api.OK)
}

// TestCheckTooMany: that is told ahead of all that is wrong with one of them.
func TestCheckTooMany(t *testing.T) {
	for _, many := range []int{65, 66, 128, 4096, 1 << 16} {
		checks(t, make([]api.Account, many), -1, api.ErrLong)
		l := make([]api.Account, many)
		for i := range l {
			l[i] = api.Account{User: i % 64, Key: key(i)}
		}
		checks(t, l, -1, api.ErrLong)
		for _, wrong := range []api.Account{{User: -1, Key: key(1)}, {User: 64}, {User: 5, Key: "x"}} {
			l[0] = wrong
			checks(t, l, -1, api.ErrLong)
		}
	}
	checks(t, make([]api.Account, 64), 0, api.ErrForm)
	checks(t, append(accounts(all()[:63]...), api.Account{}), 63, api.ErrThere)
	checks(t, append(accounts(all()[:63]...), api.Account{User: 63}), 63, api.ErrForm)
	checks(t, append(accounts(all()[:63]...), api.Account{User: 64, Key: key(64)}), 63, api.ErrRange)
}

// TestCheckUsers at each place, with a key that may be, and one that may not.
func TestCheckUsers(t *testing.T) {
	for _, user := range wrongUsers() {
		for _, ahead := range []int{0, 1, 2, 62, 63} {
			l := append(accounts(all()[:ahead]...), api.Account{User: user, Key: key(user)})
			checks(t, l, ahead, api.ErrRange)
			l[ahead].Key = ""
			checks(t, l, ahead, api.ErrRange)
		}
		// It is there already, but its number is told ahead.
		checks(t, accounts(user, user), 0, api.ErrRange)
	}
	for _, user := range []int{0, 1, 62, 63} {
		checks(t, accounts(user), 0, api.OK)
	}
}

// TestCheckTwice: next to the first one, far behind it, and at each place; with its key, another one, or none that may be.
func TestCheckTwice(t *testing.T) {
	for first := range 63 {
		for again := first + 1; again < 64; again++ {
			l := accounts(all()...)
			l[again].User = l[first].User
			checks(t, l, again, api.ErrThere)
			l[again].Key = l[first].Key
			checks(t, l, again, api.ErrThere)
			l[again].Key = "short"
			checks(t, l, again, api.ErrThere)
		}
	}
	checks(t, accounts(0, 0), 1, api.ErrThere)
	checks(t, accounts(63, 63), 1, api.ErrThere)
	checks(t, accounts(5, 6, 5, 6, 5), 2, api.ErrThere)
	checks(t, accounts(5, 6, 6, 5), 2, api.ErrThere)
}

func TestCheckKeys(t *testing.T) {
	for _, wrong := range wrongKeys() {
		for _, at := range []int{0, 1, 31, 62, 63} {
			l := accounts(all()...)
			l[at].Key = wrong
			checks(t, l, at, api.ErrForm)
		}
		checks(t, []api.Account{{User: 9, Key: wrong}}, 0, api.ErrForm)
	}
	for _, may := range []string{strings.Repeat("k", 32), zeros(32), strings.Repeat("\xff", 32)} {
		checks(t, []api.Account{{User: 9, Key: may}}, 0, api.OK)
	}
}

// TestCheckTheFirstThatMayNotBe: of several, whatever is wrong with each.
func TestCheckTheFirstThatMayNotBe(t *testing.T) {
	wrong := []struct {
		a api.Account
		e api.Errno
	}{
		{api.Account{User: -1, Key: key(1)}, api.ErrRange},
		{api.Account{User: 64, Key: "x"}, api.ErrRange},
		{api.Account{User: 0, Key: key(1)}, api.ErrThere},
		{api.Account{User: 0, Key: "x"}, api.ErrThere},
		{api.Account{User: 20, Key: key(20)[1:]}, api.ErrForm},
		{api.Account{User: 20, Key: ""}, api.ErrForm},
	}
	for _, a := range wrong {
		for _, b := range wrong {
			for _, between := range []int{0, 1, 9} {
				l := append(accounts(0, 1), a.a)
				l = append(l, accounts(30, 31, 32, 33, 34, 35, 36, 37, 38)[:between]...)
				l = append(l, b.a)
				checks(t, l, 2, a.e)
				checks(t, append(l, l...), 2, a.e)
			}
		}
	}
}

// drawnAccount may be mostly, beside others of few users.
func drawnAccount(by *rand.Rand) api.Account {
	a := api.Account{User: by.Intn(64), Key: key(by.Intn(3))}
	switch by.Intn(12) {
	case 0:
		a.User = wrongUsers()[by.Intn(len(wrongUsers()))]
	case 1:
		a.Key = wrongKeys()[by.Intn(len(wrongKeys()))]
	case 2:
		a.User, a.Key = by.Intn(70)-3, key(0)[:by.Intn(33)]
	}
	return a
}

func TestCheckAsPlain(t *testing.T) {
	by := rand.New(rand.NewSource(1))
	told := map[api.Errno]int{}
	for range 6000 {
		var l []api.Account
		for range []int{0, 1, 2, 3, 5, 9, 20, 64, 65}[by.Intn(9)] {
			l = append(l, drawnAccount(by))
		}
		at, e := check(l)
		checks(t, l, at, e)
		told[e]++
	}
	for _, e := range []api.Errno{api.OK, api.ErrLong, api.ErrRange, api.ErrThere, api.ErrForm} {
		if told[e] < 300 {
			t.Errorf("the error %d was told %d times: too few", e, told[e])
		}
	}
}

// 20.2

// some is pulls and acks that may be, but for their tags: the edges of user and Seq, with no id and with as many as may be.
func some() (l []api.Mail) {
	for _, user := range []int{0, 1, 3, 62, 63} {
		for _, seq := range []int{1, 2, 127, 128, 255, 256, 258, 65535, 65536, 1 << 24, 0x01020304, greatest - 1, greatest} {
			l = append(l, pull(user, seq))
			for many := range 5 {
				l = append(l, ack(user, seq, ids(many)...))
			}
		}
	}
	l = append(l, ack(1, 1, id(1), id(1), id(1), id(1)), ack(1, 1, zeros(15)+"\x01", strings.Repeat("\xff", 16)))
	return append(l, ack(1, 1, "\x01"+zeros(15)), ack(1, 1, "pieces end here.", "and here, and .."))
}

// TestSign: the tag is chapter 4's, of the pieces gate and the text with 32 bytes 0 in the place of the tag.
func TestSign(t *testing.T) {
	for _, key := range []string{key(1), zeros(32), strings.Repeat("\xff", 32), strings.Repeat("é", 16)} {
		for _, m := range some() {
			got, e := gate.Sign(key, m)
			is(t, e, api.OK)
			same(t, got, signed(key, m))
			is(t, mail.Check(got), api.OK)
			m.Tag = zeros(32)
			s, e := mail.Encode(m)
			is(t, e, api.OK)
			if got.Tag != keyed.Tag(key, "gate", s) {
				t.Fatalf("the tag of %+v is %x", m, got.Tag)
			}
		}
	}
}

// TestSignByHand: a pull of the user 3, Seq 258, all of it written out.
func TestSignByHand(t *testing.T) {
	k := strings.Repeat("k", 32)
	m, e := gate.Sign(k, api.Mail{Kind: 2, User: 3, Seq: 258})
	is(t, e, api.OK)
	same(t, m, api.Mail{Kind: 2, User: 3, Seq: 258, Tag: keyed.Tag(k, "gate\x02\x03\x00\x00\x01\x02"+zeros(32))})
	m, e = gate.Sign(k, api.Mail{Kind: 4, User: 63, Seq: 1, Ids: []string{"sixteen bytes !!"}})
	is(t, e, api.OK)
	same(t, m, api.Mail{Kind: 4, User: 63, Seq: 1, Ids: []string{"sixteen bytes !!"}, Tag: keyed.Tag(k, "gate\x04\x3f\x00\x00\x00\x01"+zeros(32)+"sixteen bytes !!"+zeros(48))})
}

// TestSignAnotherTag: what tag a message has changes nothing, whatever length.
func TestSignAnotherTag(t *testing.T) {
	for _, m := range some() {
		want := signed(key(1), m)
		for _, tag := range []string{zeros(32), strings.Repeat("t", 32), want.Tag, tag(key(2), m), "", "x", zeros(31), zeros(33), strings.Repeat("t", 64)} {
			m.Tag = tag
			got, e := gate.Sign(key(1), m)
			is(t, e, api.OK)
			same(t, got, want)
		}
	}
}

// TestSignEmptyLists: nil or empty, both are the same.
func TestSignEmptyLists(t *testing.T) {
	for _, kind := range []int{api.MPull, api.MAck} {
		m := api.Mail{Kind: kind, User: 2, Seq: 9}
		want := signed(key(2), m)
		for _, l := range [][]string{nil, {}, make([]string, 0, 4)} {
			for _, slots := range [][]api.Slot{nil, {}, make([]api.Slot, 0, 4)} {
				m.Ids, m.Slots = l, slots
				got, e := gate.Sign(key(2), m)
				is(t, e, api.OK)
				same(t, got, want)
				m.Tag = want.Tag
				is(t, opened(t, accounts(2)...).admit(m), api.OK)
			}
		}
	}
}

// wrongMails is messages that are no pull and no ack, or may not be, whatever tag they have.
func wrongMails() (l []api.Mail) {
	packet := api.Mail{Kind: api.MPacket, Text: strings.Repeat("p", 504)}
	reply := api.Mail{Kind: api.MReply, User: 3, Seq: 1, Slots: make([]api.Slot, 4)}
	full := api.Mail{Kind: api.MReply, User: 3, Seq: 1, Slots: []api.Slot{{Id: id(1), Text: "a"}, {Id: id(2)}, {Id: id(3)}, {}}}
	for _, m := range []api.Mail{packet, reply, full} {
		if mail.Check(m) != api.OK {
			panic("that may not be in itself")
		}
		l = append(l, m)
	}
	l = append(l, api.Mail{}, api.Mail{Kind: api.MReply, User: 3, Seq: 1}, api.Mail{Kind: api.MPacket, User: 3, Seq: 1}, api.Mail{Tag: zeros(32)})
	for _, kind := range []int{0, api.MPacket, api.MReply, 5, 6, 16, 255, 256 + api.MPull, 256 + api.MAck, -1, -api.MPull, 1<<32 + api.MPull, math.MaxInt, math.MinInt} {
		l = append(l, api.Mail{Kind: kind, User: 3, Seq: 1})
	}
	for _, m := range []api.Mail{pull(3, 1), ack(3, 1), ack(3, 1, id(1)), ack(3, 1, ids(4)...)} {
		for _, user := range wrongUsers() {
			l = append(l, with(m, func(m *api.Mail) { m.User = user }))
		}
		for _, seq := range []int{0, -1, -2, greatest + 1, greatest + 2, 1 << 32, 1<<32 + 1, math.MaxInt, math.MinInt} {
			l = append(l, with(m, func(m *api.Mail) { m.Seq = seq }))
		}
		for _, text := range []string{"x", "\x00", strings.Repeat("p", 504)} {
			l = append(l, with(m, func(m *api.Mail) { m.Text = text }))
		}
		l = append(l, with(m, func(m *api.Mail) { m.Slots = make([]api.Slot, 1) }), with(m, func(m *api.Mail) { m.Slots = make([]api.Slot, 4) }))
	}
	l = append(l, ack(3, 1, ids(5)...), ack(3, 1, ids(64)...), ack(3, 1, id(1), id(1), id(1), id(1), ""))
	for _, wrong := range []string{"", "x", id(1)[1:], id(1) + "x", id(1) + id(1), zeros(16), zeros(32)} {
		l = append(l, ack(3, 1, wrong), ack(3, 1, wrong, id(1)), ack(3, 1, id(1), id(2), id(3), wrong))
	}
	for _, id := range []string{id(1), "", zeros(16)} {
		m := pull(3, 1)
		m.Ids = []string{id}
		l = append(l, m)
	}
	return l
}

// with is the message, with something changed.
func with(m api.Mail, by func(m *api.Mail)) api.Mail {
	by(&m)
	return m
}

// TestSignRefuses: beside the error there is no message.
func TestSignRefuses(t *testing.T) {
	for _, m := range wrongMails() {
		for _, tag := range []string{"", zeros(32), strings.Repeat("t", 32)} {
			m.Tag = tag
			got, e := gate.Sign(key(3), m)
			is(t, e, api.ErrMail)
			same(t, got, api.Mail{})
			// Which key it is comes first.
			got, e = gate.Sign(key(3)[1:], m)
			is(t, e, api.ErrForm)
			same(t, got, api.Mail{})
		}
	}
	for _, wrong := range wrongKeys() {
		for _, m := range append(some()[:40], signed(key(3), pull(3, 1)), api.Mail{}) {
			got, e := gate.Sign(wrong, m)
			is(t, e, api.ErrForm)
			same(t, got, api.Mail{})
		}
	}
}

// 20.3

func TestAdmit(t *testing.T) {
	for _, m := range some() {
		for _, l := range [][]api.Account{accounts(m.User), accounts(all()...)} {
			x := opened(t, l...)
			x.lasts(m.User, 0)
			x.refuses(api.ErrAuth, signed(key(100), m))
			x.admits(key(m.User), m)
			x.lasts(m.User, m.Seq)
			x.refuses(api.ErrSeen, signed(key(m.User), m))
			x.refuses(api.ErrAuth, signed(key(100), m))
		}
	}
}

// TestAdmitBySeq: the one that was admitted last, one above it and one below, at the edges of what a Seq may be.
func TestAdmitBySeq(t *testing.T) {
	makes := []func(user, seq int) api.Mail{pull, func(user, seq int) api.Mail { return ack(user, seq, ids(4)...) }, func(user, seq int) api.Mail { return ack(user, seq) }}
	for k, make := range makes {
		by := func(seq int) api.Mail { return signed(key(7), make(7, seq)) }
		again := func(seq int) api.Mail { return signed(key(7), makes[(k+1)%3](7, seq)) }
		for _, seq := range []int{2, 3, 128, 256, 65536, 1 << 24, greatest - 1} {
			x := opened(t, accounts(6, 7, 8)...)
			x.refuses(api.ErrMail, by(0))
			x.admits(key(7), make(7, seq))
			x.refuses(api.ErrSeen, by(seq), by(seq-1), by(1), again(seq), again(seq-1), again(1))
			x.refuses(api.ErrMail, by(0), by(-1), by(greatest+1))
			x.lasts(7, seq)
			x.admits(key(7), make(7, seq+1))
			x.refuses(api.ErrSeen, by(seq+1), by(seq), by(seq-1), again(seq+1))
			x.lasts(7, seq+1)
		}
		x := opened(t, accounts(7)...)
		x.admits(key(7), make(7, 1))
		x.refuses(api.ErrSeen, by(1), again(1))
		x.admits(key(7), makes[(k+2)%3](7, 2), make(7, greatest))
		x.refuses(api.ErrSeen, by(greatest), by(greatest-1), by(1), again(greatest))
		x.refuses(api.ErrMail, by(greatest+1), by(0))
		x.lasts(7, greatest)
	}
}

// TestAdmitInTurn: a long row of pulls and acks, none left out.
func TestAdmitInTurn(t *testing.T) {
	x := opened(t, accounts(0, 63)...)
	for seq := 1; seq <= 300; seq++ {
		m := pull(0, seq)
		if seq%2 == 0 {
			m = ack(0, seq, ids(seq/2%5)...)
		}
		x.admits(key(0), m)
		x.lasts(0, seq)
		x.lasts(63, 0)
		x.refuses(api.ErrSeen, signed(key(0), m))
	}
}

// TestAdmitOfSeveralUsers: what is admitted of one is nothing to another, though they have the same key.
func TestAdmitOfSeveralUsers(t *testing.T) {
	one := key(1)
	x := opened(t, api.Account{User: 1, Key: one}, api.Account{User: 2, Key: one}, api.Account{User: 63, Key: key(63)}, api.Account{User: 0, Key: key(0)})
	x.admits(one, pull(1, 9), pull(2, 4), ack(2, 9, id(1)), ack(1, 10))
	x.admits(key(0), pull(0, 1))
	x.admits(key(63), ack(63, greatest))
	x.admits(one, pull(1, 11), pull(2, 10))
	x.refuses(api.ErrAuth, with(signed(one, pull(1, 20)), func(m *api.Mail) { m.User = 2 }), signed(one, pull(0, 20)), signed(key(0), pull(1, 20)))
	x.lasts(1, 11)
	x.lasts(2, 10)
	x.lasts(0, 1)
	x.lasts(63, greatest)
}

// TestAdmitRefusesWhatMayNotBe: though its tag is the one that its text would have, or it is a user's who has no account, or its Seq was admitted.
func TestAdmitRefusesWhatMayNotBe(t *testing.T) {
	for _, l := range [][]api.Account{accounts(3, 0, 63), nil} {
		x := opened(t, l...)
		for _, behind := range []int{0, 7} {
			if behind > 0 && l != nil {
				x.admits(key(3), pull(3, behind))
			}
			for _, m := range wrongMails() {
				for _, tag := range []string{"", zeros(32), strings.Repeat("t", 32), tag(key(3), pull(3, 1)), tag(key(3), pull(3, 8))} {
					m.Tag = tag
					x.refuses(api.ErrMail, m)
				}
				if len(m.Ids) <= 4 {
					x.refuses(api.ErrMail, signed(key(3), m))
				}
			}
		}
	}
}

// TestAdmitTags: of other lengths they are none; of 32 bytes they must be the message's.
func TestAdmitTags(t *testing.T) {
	x := opened(t, accounts(3)...)
	for _, m := range []api.Mail{pull(3, 5), ack(3, 5), ack(3, 5, ids(4)...), pull(4, 5)} {
		right := tag(key(3), m)
		for _, s := range []string{"", "x", right[1:], right[:31], right + "\x00", right + right, zeros(31), zeros(33), zeros(16), strings.Repeat("t", 1<<16)} {
			m.Tag = s
			x.refuses(api.ErrMail, m)
		}
		swapped := right[16:] + right[:16]
		for _, s := range []string{zeros(32), strings.Repeat("\xff", 32), swapped, keyed.Tag(key(3), text(signed(key(3), m))), keyed.Tag(key(3), "gate"), keyed.Tag(key(3), "gate", text(signed(key(3), m)))} {
			m.Tag = s
			x.refuses(api.ErrAuth, m)
		}
		for at := range 32 {
			for bit := range 8 {
				m.Tag = turned(right, at, 1<<bit)
				x.refuses(api.ErrAuth, m)
			}
		}
	}
	x.lasts(3, 0)
	x.admits(key(3), pull(3, 1))
}

// TestAdmitTurned: one byte of the text of a pull, or an ack, is another one, each other one at each place.
func TestAdmitTurned(t *testing.T) {
	for _, m := range []api.Mail{pull(3, 258), ack(3, 258, ids(2)...), ack(3, 258, ids(4)...)} {
		x := opened(t, accounts(3, 2, 7, 35)...)
		m = signed(key(3), m)
		s, e := mail.Encode(m)
		is(t, e, api.OK)
		places := 0
		for at := range len(s) {
			one := false
			for by := 1; by < 256; by++ {
				other, e := mail.Decode(turned(s, at, byte(by)))
				if e != api.OK {
					continue
				}
				one = true
				is(t, x.g.Admit(other), api.ErrAuth)
			}
			x.looks()
			if one {
				places++
			}
		}
		if places < 37 {
			t.Errorf("at %d places alone there was another message", places)
		}
		is(t, x.admit(m), api.OK)
		for at := 1; at < len(s); at++ {
			if other, e := mail.Decode(turned(s, at, 1)); e == api.OK {
				x.refuses(api.ErrAuth, other)
			}
		}
		x.refuses(api.ErrSeen, m)
	}
}

// TestAdmitOtherIds: an ack with one id more, one less, another one, or in another order; a pull with the tag of an ack of none.
func TestAdmitOtherIds(t *testing.T) {
	x := opened(t, accounts(3)...)
	for _, ahead := range []int{0, 4} {
		a, b := id(1), id(2)
		right := signed(key(3), ack(3, 5, a, b))
		for _, l := range [][]string{nil, {a}, {b}, {b, a}, {a, b, a}, {a, b, id(3)}, {a, a}, {b, b}, {a, turned(b, 15, 1)}, {turned(a, 0, 1), b}} {
			x.refuses(api.ErrAuth, with(right, func(m *api.Mail) { m.Ids = l }))
		}
		none := signed(key(3), ack(3, 5))
		x.refuses(api.ErrAuth, with(none, func(m *api.Mail) { m.Kind = api.MPull }))
		x.refuses(api.ErrAuth, with(signed(key(3), pull(3, 5)), func(m *api.Mail) { m.Kind = api.MAck }))
		x.refuses(api.ErrMail, with(right, func(m *api.Mail) { m.Kind = api.MPull }))
		x.lasts(3, ahead)
		if ahead == 0 {
			x.admits(key(3), pull(3, 4))
		} else {
			is(t, x.admit(right), api.OK)
		}
	}
}

// TestAdmitUnderAnotherKey: another account's, one that is like it, or none.
func TestAdmitUnderAnotherKey(t *testing.T) {
	x := opened(t, accounts(3, 5, 0)...)
	for _, m := range []api.Mail{pull(3, 1), ack(3, 1, id(1))} {
		for _, other := range []string{key(5), key(0), key(4), zeros(32), strings.Repeat("\xff", 32), key(3)[1:], key(3) + "x", key(3) + key(3), ""} {
			x.refuses(api.ErrAuth, signed(other, m))
		}
		for at := range 32 {
			x.refuses(api.ErrAuth, signed(turned(key(3), at, 128), m))
		}
	}
	x.lasts(3, 0)
	x.admits(key(3), pull(3, 1))
}

// TestAdmitWithoutAccount: a user who has none is refused, whatever tag there is, and whatever was admitted of others.
func TestAdmitWithoutAccount(t *testing.T) {
	for _, l := range [][]api.Account{nil, accounts(3), accounts(62), accounts(0, 3, 63)} {
		x := opened(t, l...)
		for _, a := range l {
			x.admits(a.Key, pull(a.User, 10))
		}
		for user := range 64 {
			if x.g.Has(user) {
				continue
			}
			for _, seq := range []int{1, 9, 10, 11} {
				x.refuses(api.ErrAuth, signed(key(user), pull(user, seq)), signed(key(3), ack(user, seq, id(1))), signed(zeros(32), pull(user, seq)), signed("", pull(user, seq)), with(pull(user, seq), func(m *api.Mail) { m.Tag = zeros(32) }))
			}
		}
	}
}

// TestAdmitInTheChaptersOrder: where two errors would be told, the one named first is.
func TestAdmitInTheChaptersOrder(t *testing.T) {
	x := opened(t, accounts(3)...)
	x.admits(key(3), pull(3, 100))
	// None of it may be: no message, no account or another's tag, and a Seq that was admitted.
	x.refuses(api.ErrMail, api.Mail{Kind: api.MPull, User: 4, Seq: 1, Tag: "short"}, api.Mail{Kind: api.MPull, User: 3, Seq: 1, Tag: "short"}, api.Mail{Kind: api.MPull, User: 3, Seq: 0, Tag: zeros(32)}, api.Mail{Kind: api.MPull, User: 64, Seq: 1, Tag: zeros(32)})
	x.refuses(api.ErrAuth, signed(key(4), pull(3, 1)), signed(key(4), pull(3, 100)), signed(key(4), pull(4, 1)), signed(key(3), pull(4, 100)))
	x.refuses(api.ErrSeen, signed(key(3), pull(3, 1)), signed(key(3), pull(3, 100)), signed(key(3), ack(3, 100)))
	x.lasts(3, 100)
}

func TestLastAndHas(t *testing.T) {
	for _, l := range [][]api.Account{nil, {}, accounts(0), accounts(63), accounts(5, 3), accounts(all()...)} {
		x := opened(t, l...)
		for _, user := range wrongUsers() {
			x.looksAt(user)
			n, e := x.g.Last(user)
			is(t, e, api.ErrAuth)
			if n != 0 || x.g.Has(user) {
				t.Fatalf("%d has an account, and the last one %d", user, n)
			}
		}
		for k, a := range l {
			x.lasts(a.User, 0)
			x.admits(a.Key, pull(a.User, k+1))
			x.lasts(a.User, k+1)
		}
		for k, a := range l {
			x.lasts(a.User, k+1)
		}
	}
}

// TestEachOfMost: accounts of api.MaxUsers, in an order that is none, each with its own row of Seqs.
func TestEachOfMost(t *testing.T) {
	by := rand.New(rand.NewSource(64))
	users := all()
	by.Shuffle(len(users), func(i, j int) { users[i], users[j] = users[j], users[i] })
	x := opened(t, accounts(users...)...)
	for range 3 {
		by.Shuffle(len(users), func(i, j int) { users[i], users[j] = users[j], users[i] })
		for _, user := range users {
			last, _ := x.g.Last(user)
			x.refuses(api.ErrAuth, signed(key((user+1)%64), pull(user, last+1)))
			x.admits(key(user), ack(user, last+1+by.Intn(3), ids(by.Intn(5))...))
		}
	}
}

// 20.4

// TestSignedOnce: each is admitted once, as long as its Seq is above all ahead, whatever comes between.
func TestSignedOnce(t *testing.T) {
	by := rand.New(rand.NewSource(20))
	x := opened(t, accounts(1, 2)...)
	admitted := map[string]int{}
	var rows [3][]int
	for range 1500 {
		user := 1 + by.Intn(2)
		m, e := x.sign(key(user), pull(user, 1+by.Intn(200)))
		is(t, e, api.OK)
		for range 1 + by.Intn(3) {
			x.admit(with(m, func(m *api.Mail) { m.Seq++ }))
			if x.admit(m) == api.OK {
				admitted[m.Tag]++
				rows[user] = append(rows[user], m.Seq)
			}
		}
	}
	for tag, many := range admitted {
		if many != 1 {
			t.Errorf("%x was admitted %d times", tag, many)
		}
	}
	for user, row := range rows[1:] {
		if len(row) < 4 || !slices.IsSorted(row) || len(slices.Compact(row)) != len(row) {
			t.Errorf("of the user %d were admitted %s", user+1, fmt.Sprint(row))
		}
	}
}
