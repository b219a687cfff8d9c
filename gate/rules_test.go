package gate_test

import (
	"fmt"
	"math"
	"math/rand"
	"reflect"
	"slices"
	"strings"
	"sync"
	"testing"
	"unsafe"

	"dovecote/api"
	"dovecote/gate"
	"dovecote/keyed"
	"dovecote/mail"
)

// Mixtures.

// drawnText has any bytes.
func drawnText(by *rand.Rand, long int) string {
	b := make([]byte, long)
	by.Read(b)
	return string(b)
}

// drawnSeq is mostly near the last one that was admitted.
func drawnSeq(by *rand.Rand, last int) int {
	switch k := by.Intn(24); {
	case k == 0:
		return greatest - by.Intn(2)
	case k < 3:
		return 1 + by.Intn(40)
	case k < 6:
		return last
	case k < 9:
		return max(last-1, 1)
	}
	return min(last+1+by.Intn(3), greatest)
}

// drawnMail is a pull or an ack that may be, not signed yet.
func drawnMail(by *rand.Rand, p *plainGate) api.Mail {
	user := by.Intn(6)
	m := pull(user, drawnSeq(by, p.last[user]))
	if by.Intn(2) == 0 {
		m.Kind = api.MAck
		for range by.Intn(5) {
			m.Ids = append(m.Ids, id(by.Intn(8)))
		}
	}
	if by.Intn(4) == 0 {
		m.Tag = drawnText(by, by.Intn(40))
	}
	return m
}

// spoilt is the message, which was signed, with something in it changed.
func spoilt(by *rand.Rand, m api.Mail) api.Mail {
	switch by.Intn(8) {
	case 0:
		m.Tag = turned(m.Tag, by.Intn(32), 1<<by.Intn(8))
	case 1:
		m.Tag = drawnText(by, []int{0, 16, 31, 32, 33, 64}[by.Intn(6)])
	case 2:
		m.User = by.Intn(6)
	case 3:
		m.Seq += []int{-1, 1, 256, -m.Seq, 1 << 31}[by.Intn(5)]
	case 4:
		m.Kind = by.Intn(6)
	case 5:
		m.Ids = append(slices.Clone(m.Ids), []string{id(9), "", zeros(16)}[by.Intn(3)])
	case 6:
		m.Tag = tag(key(by.Intn(6)), m)
	case 7:
		return wrongMails()[by.Intn(len(wrongMails()))]
	}
	return m
}

// play is a gate that is asked for drawn calls, and what was signed of late.
type play struct {
	*pair
	late []api.Mail
}

// plays one drawn call.
func (x *play) plays(by *rand.Rand) (call string, e api.Errno) {
	x.t.Helper()
	if k := by.Intn(10); len(x.late) > 0 && k < 3 {
		m := x.late[by.Intn(len(x.late))]
		if k == 0 {
			m = spoilt(by, m)
		}
		return "admit", x.admit(m)
	}
	m := drawnMail(by, x.p)
	under := key(m.User)
	switch by.Intn(30) {
	case 0:
		under = key(by.Intn(6))
	case 1:
		under = wrongKeys()[by.Intn(len(wrongKeys()))]
	case 2:
		m = wrongMails()[by.Intn(len(wrongMails()))]
	}
	m, e = x.sign(under, m)
	if e != api.OK {
		return "sign", e
	}
	x.late = append(x.late, m)
	if by.Intn(4) == 0 {
		return "sign", e
	}
	return "admit", x.admit(m)
}

// TestAsPlain: each answer, and Last and Has of each user behind it, are those of a plain gate; some of the users have no account.
func TestAsPlain(t *testing.T) {
	t.Parallel()
	told := map[string]map[api.Errno]int{"sign": {}, "admit": {}}
	for k := range 60 {
		by := rand.New(rand.NewSource(int64(k)))
		l := [][]api.Account{accounts(0, 1, 2, 3, 4), accounts(5, 2), accounts(3), nil, accounts(all()...), accounts(4, 63, 0)}[k%6]
		x := &play{pair: opened(t, l...)}
		for range 200 {
			call, e := x.plays(by)
			told[call][e]++
		}
	}
	for call, want := range map[string][]api.Errno{
		"sign":  {api.OK, api.ErrForm, api.ErrMail},
		"admit": {api.OK, api.ErrMail, api.ErrAuth, api.ErrSeen},
	} {
		for _, e := range want {
			if told[call][e] < 100 {
				t.Errorf("%s told the error %d %d times: too few", call, e, told[call][e])
			}
		}
		if len(told[call]) != len(want) {
			t.Errorf("%s told %v", call, told[call])
		}
	}
}

// TestShortPlays: all plays of five of these calls.
func TestShortPlays(t *testing.T) {
	t.Parallel()
	calls := []api.Mail{
		signed(key(1), pull(1, 1)),
		signed(key(1), ack(1, 2, id(1))),
		signed(key(1), pull(1, 3)),
		signed(key(2), pull(2, 2)),
		signed(key(2), ack(2, 1)),
		signed(key(2), pull(1, 4)),
		signed(key(3), pull(3, 5)),
		pull(1, 5),
	}
	many := 1
	for range 5 {
		many *= len(calls)
	}
	for play := range many {
		g, _ := gate.New(accounts(1, 2))
		p, _ := newPlain(accounts(1, 2))
		x := &pair{t, g, p}
		for n, k := play, 0; k < 5; n, k = n/len(calls), k+1 {
			m := calls[n%len(calls)]
			is(t, g.Admit(m), p.admit(m))
			for user := range 4 {
				x.looksAt(user)
			}
		}
	}
}

// Rules that hold everywhere.

// refusedCalls asks for what is refused, whatever was admitted.
func refusedCalls(t *testing.T, x *pair, by *rand.Rand) {
	t.Helper()
	for _, m := range wrongMails() {
		is(t, x.g.Admit(m), api.ErrMail)
	}
	for user := range 6 {
		m := drawnMail(by, x.p)
		m.User, m.Seq = user, max(m.Seq, 1)
		last := x.p.last[user]
		is(t, x.g.Admit(signed(key(100), m)), api.ErrAuth)
		m.Tag = zeros(32)
		is(t, x.g.Admit(m), api.ErrAuth)
		if last > 0 {
			is(t, x.g.Admit(signed(key(user), pull(user, 1+by.Intn(last)))), api.ErrSeen)
			is(t, x.g.Admit(signed(key(user), ack(user, last, id(1)))), api.ErrSeen)
		}
		_, e := gate.Sign(key(user), api.Mail{Kind: api.MReply, User: user, Seq: greatest})
		is(t, e, api.ErrMail)
	}
	at, e := gate.Check(accounts(1, 2, 1))
	is(t, e, api.ErrThere)
	g, e := gate.New(accounts(1, 2, 1))
	is(t, e, api.ErrThere)
	if at != 2 || g != nil {
		t.Fatalf("the place is %d, a gate: %v", at, g != nil)
	}
}

// TestRefusedCallsChangeNothing plays the same calls with two gates, one of them with refused ones between.
func TestRefusedCallsChangeNothing(t *testing.T) {
	t.Parallel()
	for k := range 8 {
		by := rand.New(rand.NewSource(int64(k)))
		calm, x := &play{pair: opened(t, accounts(0, 1, 2, 3, 4)...)}, &play{pair: opened(t, accounts(0, 1, 2, 3, 4)...)}
		for range 60 {
			refusedCalls(t, x.pair, by)
			x.looks()
			seed := by.Int63()
			call, e := calm.plays(rand.New(rand.NewSource(seed)))
			again, ae := x.plays(rand.New(rand.NewSource(seed)))
			if call != again || e != ae || !reflect.DeepEqual(calm.p, x.p) {
				t.Fatalf("%s told the error %d, with refused calls between %s the error %d", call, e, again, ae)
			}
		}
	}
}

// TestAsksChangeNothing: neither what is asked of a gate, nor what is signed or checked beside it.
func TestAsksChangeNothing(t *testing.T) {
	x := opened(t, accounts(1, 2)...)
	x.admits(key(1), pull(1, 4))
	for range 20 {
		x.looks()
		for seq := 1; seq < 9; seq++ {
			x.sign(key(1), pull(1, seq))
		}
		gate.Check(accounts(1, 2))
		gate.New(accounts(1, 2))
	}
	x.refuses(api.ErrSeen, signed(key(1), pull(1, 4)))
	x.admits(key(1), pull(1, 5))
	x.admits(key(2), pull(2, 1))
}

// roomy is the list with other things behind its length.
func roomy[T any](l []T, behind T) []T {
	room := append(slices.Clone(l), behind, behind, behind)
	return room[:len(l)]
}

// TestNothingHandedInIsChanged: neither lists nor what lies behind their lengths.
func TestNothingHandedInIsChanged(t *testing.T) {
	for _, l := range [][]api.Account{accounts(5, 3, 0), accounts(all()...), accounts(1, 2, 1), accounts(64), {{User: 1, Key: "x"}}, nil} {
		l = roomy(l, api.Account{User: -1, Key: "behind"})
		was := slices.Clone(l[:cap(l)])
		gate.Check(l)
		if g, e := gate.New(l); e == api.OK {
			for _, a := range l {
				is(t, g.Admit(signed(a.Key, pull(a.User, 1))), api.OK)
			}
		}
		if !slices.Equal(l[:cap(l)], was) {
			t.Fatalf("the accounts are %v; they were %v", l[:cap(l)], was)
		}
	}
	for many := range 6 {
		m := ack(3, 1, ids(many)...)
		m.Ids, m.Slots, m.Tag = roomy(m.Ids, "behind"), roomy([]api.Slot(nil), api.Slot{Id: "behind"}), strings.Repeat("t", 32)
		was := m
		behind, slots := slices.Clone(m.Ids[:cap(m.Ids)]), slices.Clone(m.Slots[:cap(m.Slots)])
		x := opened(t, accounts(3)...)
		x.admit(m)
		got, e := x.sign(key(3), m)
		x.admit(got)
		if (e == api.OK) != (many <= 4) {
			t.Fatalf("of %d ids the error is %d", many, e)
		}
		if !reflect.DeepEqual(m, was) || !slices.Equal(m.Ids[:cap(m.Ids)], behind) || !slices.Equal(m.Slots[:cap(m.Slots)], slots) {
			t.Fatalf("the message is %#v; it was %#v", m, was)
		}
	}
}

// TestBehindTheLength: what lies there is not read: though it may not be, or is a user's.
func TestBehindTheLength(t *testing.T) {
	l := roomy(accounts(1, 2), api.Account{User: 1})
	checks(t, l, 0, api.OK)
	x := opened(t, roomy(accounts(1), api.Account{User: 2, Key: key(2)})...)
	x.refuses(api.ErrAuth, signed(key(2), pull(2, 1)))
	x.admits(key(1), ack(1, 1, roomy(ids(4), "a fifth")...), ack(1, 2, roomy(ids(0), id(1))...))
}

// TestAccountsCanBeChangedBehindNew, and those of one gate are not another's.
func TestAccountsCanBeChangedBehindNew(t *testing.T) {
	l := roomy(accounts(1, 2, 3), api.Account{})
	g, e := gate.New(l)
	is(t, e, api.OK)
	p, _ := newPlain(accounts(1, 2, 3))
	x := &pair{t, g, p}
	l[0] = api.Account{User: 4, Key: key(4)}
	l[1].Key = key(9)
	l[2].User = 2
	l = append(l, api.Account{User: 5, Key: key(5)})
	x.looks()
	x.admits(key(1), pull(1, 1))
	x.admits(key(2), pull(2, 1))
	x.admits(key(3), pull(3, 1))
	x.refuses(api.ErrAuth, signed(key(4), pull(4, 1)), signed(key(9), pull(2, 2)), signed(key(3), pull(2, 2)), signed(key(5), pull(5, 1)))
	other, e := gate.New(l)
	is(t, e, api.ErrThere)
	if other != nil {
		t.Fatal("beside an error there is a gate")
	}
	clear(l)
	x.looks()
	x.admits(key(1), pull(1, 2))
}

// TestAnswersAreNew: lists that were answered are written over, their spare room too; the message, and what was answered beside, stay.
func TestAnswersAreNew(t *testing.T) {
	for many := range 5 {
		m := ack(3, 7, ids(many)...)
		a, e := gate.Sign(key(3), m)
		is(t, e, api.OK)
		b, _ := gate.Sign(key(3), m)
		again, _ := gate.Sign(key(3), a)
		x := opened(t, accounts(3)...)
		for _, one := range [][]string{a.Ids[:cap(a.Ids)], again.Ids[:cap(again.Ids)]} {
			for i := range one {
				one[i] = "changed"
			}
		}
		same(t, m, ack(3, 7, ids(many)...))
		same(t, b, signed(key(3), m))
		is(t, x.admit(b), api.OK)
	}
}

// spoil writes a text over, as no program of the language could.
func spoil(s string) {
	b := unsafe.Slice(unsafe.StringData(s), len(s))
	for i := range b {
		b[i] = '?'
	}
}

// fresh is the same text in memory that may be written over.
func fresh(s string) string { return string([]byte(s)) }

// TestNothingIsShared: texts are written over once they were handed in or answered; the gate, and what was answered, have them still.
func TestNothingIsShared(t *testing.T) {
	k := fresh(key(3))
	g, e := gate.New([]api.Account{{User: 3, Key: k}})
	is(t, e, api.OK)
	spoil(k)
	m := ack(3, 7, fresh(id(1)), fresh(id(2)))
	m.Tag = fresh(strings.Repeat("t", 32))
	k = fresh(key(3))
	a, e := gate.Sign(k, m)
	is(t, e, api.OK)
	b, _ := gate.Sign(k, m)
	again, _ := gate.Sign(k, a)
	for _, s := range append([]string{k, m.Tag}, m.Ids...) {
		spoil(s)
	}
	want := signed(key(3), ack(3, 7, id(1), id(2)))
	same(t, a, want)
	is(t, g.Admit(a), api.OK)
	for _, s := range append([]string{a.Tag}, a.Ids...) {
		spoil(s)
	}
	same(t, b, want)
	same(t, again, want)
	is(t, g.Admit(b), api.ErrSeen)
	for seq := range 20 {
		c, _ := gate.Sign(key(3), pull(3, 8+seq))
		is(t, g.Admit(c), api.OK)
		spoil(c.Tag)
	}
	n, e := g.Last(3)
	is(t, e, api.OK)
	if n != 27 {
		t.Fatalf("the last one is %d", n)
	}
	same(t, again, want)
}

// TestGatesDoNotKnowOfOneAnother, though their accounts are the same.
func TestGatesDoNotKnowOfOneAnother(t *testing.T) {
	l := accounts(1, 2)
	a, b, c := opened(t, l...), opened(t, l...), opened(t, accounts(2)...)
	m := signed(key(1), pull(1, 5))
	is(t, a.admit(m), api.OK)
	b.lasts(1, 0)
	c.refuses(api.ErrAuth, m)
	is(t, b.admit(m), api.OK)
	a.admits(key(1), pull(1, 9))
	b.admits(key(1), pull(1, 6))
	c.admits(key(2), pull(2, 3))
	a.admits(key(2), pull(2, 1))
	b.lasts(1, 6)
	a.lasts(1, 9)
	by := rand.New(rand.NewSource(20))
	plays := []*play{{pair: a}, {pair: b}, {pair: c}}
	for range 400 {
		plays[by.Intn(3)].plays(by)
		for _, x := range plays {
			x.looks()
		}
	}
	d := opened(t, l...)
	d.lasts(1, 0)
	d.admits(key(1), pull(1, 1))
}

// drawnAny is a message of any numbers and texts.
func drawnAny(by *rand.Rand) api.Mail {
	number := func() int {
		return []int{0, 1, 2, 3, 4, 5, 63, 64, -1, greatest, greatest + 1, math.MaxInt, math.MinInt, by.Int(), by.Intn(256)}[by.Intn(15)]
	}
	text := func() string {
		return drawnText(by, []int{0, 0, 1, 16, 16, 31, 32, 32, 33, 222, 223, 504}[by.Intn(12)])
	}
	m := api.Mail{Kind: number(), User: number(), Seq: number(), Tag: text()}
	if by.Intn(4) == 0 {
		m.Text = text()
	}
	for range by.Intn(7) {
		m.Ids = append(m.Ids, text())
	}
	if by.Intn(4) == 0 {
		for range by.Intn(6) {
			m.Slots = append(m.Slots, api.Slot{Id: text(), Text: text()})
		}
	}
	return m
}

// TestEndsAtAllArguments: none of the calls panics, and each tells what the plain one does.
func TestEndsAtAllArguments(t *testing.T) {
	by := rand.New(rand.NewSource(99))
	x := opened(t, accounts(0, 1, 2, 3, 4, 5, 63)...)
	admitted := 0
	for range 20000 {
		m := drawnAny(by)
		is(t, x.g.Admit(m), x.p.admit(m))
		under := []string{key(1), drawnText(by, 32), drawnText(by, by.Intn(70))}[by.Intn(3)]
		if k, there := x.p.keys[m.User]; there && by.Intn(2) == 0 {
			under = k
		}
		s, e := gate.Sign(under, m)
		want, we := sign(under, m)
		is(t, e, we)
		same(t, s, want)
		if e = x.g.Admit(s); e == api.OK {
			admitted++
		}
		is(t, e, x.p.admit(s))
		x.looksAt(m.User)
		x.looksAt(m.Seq)
	}
	x.looks()
	if admitted < 10 {
		t.Errorf("%d were admitted: too few", admitted)
	}
	long := strings.Repeat("l", 1<<20)
	for _, m := range []api.Mail{{Kind: api.MPull, User: 1, Seq: 1, Tag: long}, {Kind: api.MPull, User: 1, Seq: 1, Text: long}, ack(1, 1, long), ack(1, 1, make([]string, 1<<16)...)} {
		x.refuses(api.ErrMail, m)
	}
	_, e := x.sign(long, pull(1, 1))
	is(t, e, api.ErrForm)
}

// TestFromFrames: what a link carries, encoded and decoded again, is admitted as what was signed.
func TestFromFrames(t *testing.T) {
	x := opened(t, accounts(1, 63)...)
	for k, m := range []api.Mail{pull(1, 1), ack(1, 2), ack(1, 3, ids(1)...), ack(1, 4, ids(4)...), pull(63, greatest), pull(1, greatest-1), ack(1, greatest, ids(3)...)} {
		s, e := x.sign(key(m.User), m)
		is(t, e, api.OK)
		text, e := mail.Encode(s)
		is(t, e, api.OK)
		came, e := mail.Decode(text)
		is(t, e, api.OK)
		is(t, x.admit(came), api.OK)
		is(t, x.admit(s), api.ErrSeen)
		if s.Tag != keyed.Tag(key(m.User), "gate", text[:6]+zeros(32)+text[38:]) {
			t.Errorf("the tag of the message %d is %x", k, s.Tag)
		}
	}
}

// TestSameCallsTellTheSame, again and again, and at the same time.
func TestSameCallsTellTheSame(t *testing.T) {
	play := func() string {
		by := rand.New(rand.NewSource(4))
		l := accounts(0, 1, 2, 3)
		g, _ := gate.New(l)
		p, _ := newPlain(l)
		var said strings.Builder
		for range 200 {
			m, e := gate.Sign(key(by.Intn(4)), drawnMail(by, p))
			fmt.Fprintf(&said, "%d %x\n", e, m.Tag)
			fmt.Fprintf(&said, "%d %d\n", g.Admit(m), p.admit(m))
			for user := range 6 {
				n, e := g.Last(user)
				fmt.Fprintf(&said, "%d %d %v\n", n, e, g.Has(user))
			}
			at, e := gate.Check([]api.Account{drawnAccount(by), drawnAccount(by), drawnAccount(by)})
			fmt.Fprintf(&said, "%d %d\n", at, e)
		}
		return said.String()
	}
	want := play()
	var everyone sync.WaitGroup
	said := make([]string, 8)
	for k := range said {
		everyone.Go(func() { said[k] = play() })
	}
	everyone.Wait()
	for _, s := range said {
		if s != want {
			t.Fatal("another answer")
		}
	}
}
