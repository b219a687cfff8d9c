package mail_test

import (
	"encoding/binary"
	"math"
	"math/rand"
	"slices"
	"strings"
	"sync"
	"testing"
	"unsafe"

	"dovecote/api"
	"dovecote/mail"
)

const (
	id   = "sixteen bytes !!"
	last = 1<<31 - 1 // the greatest Seq
)

// drawn is a text of so many bytes, the same one in each run.
func drawn(seed int64, many int) string {
	b := make([]byte, many)
	rand.New(rand.NewSource(seed)).Read(b)
	return string(b)
}

// zeros has so many bytes 0.
func zeros(many int) string { return strings.Repeat("\x00", many) }

// with is the text with another byte at a place.
func with(s string, at int, b byte) string {
	return s[:at] + string([]byte{b}) + s[at+1:]
}

// lead is the first six bytes of a message that is no packet.
func lead(kind, user byte, seq uint32) string {
	return string(binary.BigEndian.AppendUint32([]byte{kind, user}, seq))
}

// inSlot is an entry's 239 bytes.
func inSlot(id, text string) string {
	return id + string([]byte{byte(len(text))}) + text + zeros(222-len(text))
}

// nobody is the 239 bytes of a slot that has no entry.
func nobody() string { return zeros(239) }

// packet, pull, reply and ack are messages of each kind.
func packet(text string) api.Mail { return api.Mail{Kind: api.MPacket, Text: text} }

func pull(user, seq int, tag string) api.Mail {
	return api.Mail{Kind: api.MPull, User: user, Seq: seq, Tag: tag}
}

func reply(user, seq int, l ...api.Slot) api.Mail {
	return api.Mail{Kind: api.MReply, User: user, Seq: seq, Slots: l}
}

func ack(user, seq int, tag string, l ...string) api.Mail {
	return api.Mail{Kind: api.MAck, User: user, Seq: seq, Tag: tag, Ids: l}
}

// four is these slots, and empty ones behind them.
func four(l ...api.Slot) []api.Slot {
	all := make([]api.Slot, 4)
	copy(all, l)
	return all
}

// tag is one that may be.
func tag() string { return drawn(11, 32) }

// pair is a message, and its text put together by hand.
type pair struct {
	m    api.Mail
	text string
}

// pairs are of each kind, with the edges of what it names.
func pairs() []pair {
	full, one := strings.Repeat("\xff", 16), zeros(15)+"\x01"
	most := drawn(222, 222)
	a, b, c, d := drawn(1, 16), drawn(2, 16), drawn(3, 16), drawn(4, 16)
	return []pair{
		{packet(drawn(5, 504)), "\x01" + drawn(5, 504)},
		{packet(zeros(504)), "\x01" + zeros(504)},
		{packet(strings.Repeat("\xff", 504)), "\x01" + strings.Repeat("\xff", 504)},
		{pull(3, 258, tag()), "\x02\x03\x00\x00\x01\x02" + tag()},
		{pull(0, 1, zeros(32)), "\x02\x00\x00\x00\x00\x01" + zeros(32)},
		{pull(63, last, tag()), "\x02\x3f\x7f\xff\xff\xff" + tag()},
		{pull(7, 0x01020304, tag()), "\x02\x07\x01\x02\x03\x04" + tag()},
		{reply(0, 1, four()...), "\x03\x00\x00\x00\x00\x01" + zeros(4*239)},
		{reply(1, 2, four(api.Slot{Id: id, Text: "hi"})...), lead(3, 1, 2) + id + "\x02hi" + zeros(220) + zeros(3*239)},
		{reply(63, last, four(api.Slot{Id: id})...), lead(3, 63, last) + id + zeros(223) + zeros(3*239)},
		{reply(5, 256, four(api.Slot{Id: full, Text: "\x00"})...), lead(3, 5, 256) + full + "\x01" + zeros(222) + zeros(3*239)},
		{reply(5, 255, four(api.Slot{Id: one, Text: zeros(222)})...), lead(3, 5, 255) + one + "\xde" + zeros(222) + zeros(3*239)},
		{reply(9, 65536, four(api.Slot{Id: a, Text: most}, api.Slot{Id: a})...), lead(3, 9, 65536) + a + "\xde" + most + a + zeros(223) + zeros(2*239)},
		{reply(9, 1<<24, four(api.Slot{Id: a}, api.Slot{Id: b, Text: "x"}, api.Slot{Id: c, Text: most[:221]})...), lead(3, 9, 1<<24) + inSlot(a, "") + inSlot(b, "x") + inSlot(c, most[:221]) + nobody()},
		{reply(9, 3, api.Slot{Id: a, Text: most}, api.Slot{Id: b, Text: most}, api.Slot{Id: c, Text: most}, api.Slot{Id: d, Text: most}), lead(3, 9, 3) + inSlot(a, most) + inSlot(b, most) + inSlot(c, most) + inSlot(d, most)},
		{reply(9, 4, api.Slot{Id: a}, api.Slot{Id: b}, api.Slot{Id: c}, api.Slot{Id: d, Text: "end"}), lead(3, 9, 4) + inSlot(a, "") + inSlot(b, "") + inSlot(c, "") + inSlot(d, "end")},
		{ack(0, 1, tag()), lead(4, 0, 1) + tag() + zeros(64)},
		{ack(63, last, zeros(32)), lead(4, 63, last) + zeros(96)},
		{ack(1, 2, tag(), id), lead(4, 1, 2) + tag() + id + zeros(48)},
		{ack(1, 2, tag(), one, full), lead(4, 1, 2) + tag() + one + full + zeros(32)},
		{ack(1, 2, tag(), id, id, id), lead(4, 1, 2) + tag() + id + id + id + zeros(16)},
		{ack(62, 0x7f000001, tag(), a, b, c, d), lead(4, 62, 0x7f000001) + tag() + a + b + c + d},
	}
}

// anId is whether a text may be an Id.
func anId(s string) bool { return len(s) == 16 && s != zeros(16) }

// mayBe is the chapter's words on a message, kind by kind.
func mayBe(m api.Mail) bool {
	numbers := 0 <= m.User && m.User <= 63 && 1 <= m.Seq && m.Seq <= last
	switch m.Kind {
	case 1:
		return len(m.Text) == 504 && m.User == 0 && m.Seq == 0 && m.Tag == "" && len(m.Slots) == 0 && len(m.Ids) == 0
	case 2:
		return numbers && len(m.Tag) == 32 && m.Text == "" && len(m.Slots) == 0 && len(m.Ids) == 0
	case 3:
		return numbers && m.Text == "" && m.Tag == "" && len(m.Ids) == 0 && slotsMayBe(m.Slots)
	case 4:
		return numbers && len(m.Tag) == 32 && m.Text == "" && len(m.Slots) == 0 && len(m.Ids) <= 4 && !slices.ContainsFunc(m.Ids, func(s string) bool { return !anId(s) })
	}
	return false
}

// slotsMayBe is the chapter's words on slots.
func slotsMayBe(l []api.Slot) bool {
	for i, s := range l {
		empty := s.Id == "" && s.Text == ""
		if !empty && (!anId(s.Id) || len(s.Text) > 222) {
			return false
		}
		if !empty && i > 0 && l[i-1] == (api.Slot{}) {
			return false
		}
	}
	return len(l) == 4
}

// byHand is the text of a message that may be.
func byHand(m api.Mail) string {
	if m.Kind == 1 {
		return "\x01" + m.Text
	}
	s := lead(byte(m.Kind), byte(m.User), uint32(m.Seq)) + m.Tag
	if m.Kind == 4 {
		return s + strings.Join(m.Ids, "") + zeros(16*(4-len(m.Ids)))
	}
	for _, x := range m.Slots {
		if x.Id == "" {
			s += nobody()
		} else {
			s += inSlot(x.Id, x.Text)
		}
	}
	return s
}

// meant reads a text by the chapter's words, without Decode.
func meant(s string) (api.Mail, bool) {
	longs := map[byte]int{1: 505, 2: 38, 3: 962, 4: 102}
	if s == "" || len(s) != longs[s[0]] {
		return api.Mail{}, false
	}
	if s[0] == 1 {
		return packet(s[1:]), true
	}
	m := api.Mail{Kind: int(s[0]), User: int(s[1]), Seq: int(binary.BigEndian.Uint32([]byte(s[2:6])))}
	whole := m.User < 64 && m.Seq > 0 && m.Seq < 1<<31
	switch m.Kind {
	case 2:
		m.Tag = s[6:]
	case 3:
		whole = meantSlots(&m, s[6:]) && whole
	case 4:
		m.Tag = s[6:38]
		for at := 38; at < 102; at += 16 {
			if x := s[at : at+16]; x != zeros(16) {
				whole = whole && len(m.Ids) == (at-38)/16
				m.Ids = append(m.Ids, x)
			}
		}
	}
	return m, whole
}

// meantSlots is whether four times 239 bytes are slots; it lays them into the message.
func meantSlots(m *api.Mail, s string) bool {
	whole, ended := true, false
	for i := range 4 {
		x := s[239*i : 239*(i+1)]
		if x == nobody() {
			m.Slots, ended = append(m.Slots, api.Slot{}), true
			continue
		}
		n := int(x[16])
		if ended || x[:16] == zeros(16) || n > 222 || x[17+n:] != zeros(222-n) {
			whole = false
			continue
		}
		m.Slots = append(m.Slots, api.Slot{Id: x[:16], Text: x[17 : 17+n]})
	}
	return whole
}

// same is whether two messages are one: a list without an element may be nil or empty.
func same(a, b api.Mail) bool {
	return a.Kind == b.Kind && a.User == b.User && a.Seq == b.Seq && a.Text == b.Text && a.Tag == b.Tag &&
		slices.Equal(a.Slots, b.Slots) && slices.Equal(a.Ids, b.Ids)
}

// copied is the message in memory of its own.
func copied(m api.Mail) api.Mail {
	m.Slots, m.Ids = slices.Clone(m.Slots), slices.Clone(m.Ids)
	return m
}

// encoded fails unless the message may be, and has this text.
func encoded(t *testing.T, m api.Mail, want string) {
	t.Helper()
	if e := mail.Check(m); e != api.OK {
		t.Errorf("Check(%#v): %d", m, e)
	}
	if s, e := mail.Encode(m); s != want || e != api.OK {
		t.Errorf("Encode(%#v): %x %d, not %x", m, s, e, want)
	}
	if n := mail.Long(m.Kind); n != len(want) {
		t.Errorf("Long(%d): %d, not %d", m.Kind, n, len(want))
	}
}

// decoded fails unless the text is just this message.
func decoded(t *testing.T, s string, want api.Mail) {
	t.Helper()
	if m, e := mail.Decode(s); !same(m, want) || e != api.OK {
		t.Errorf("Decode(%x): %#v %d, not %#v", s, m, e, want)
	}
}

// both fails unless the message and its text are made of each other.
func both(t *testing.T, m api.Mail) {
	t.Helper()
	encoded(t, m, byHand(m))
	decoded(t, byHand(m), m)
}

// noMail fails unless the message is refused.
func noMail(t *testing.T, m api.Mail) {
	t.Helper()
	if e := mail.Check(m); e != api.ErrMail {
		t.Errorf("Check(%#v): %d", m, e)
	}
	if s, e := mail.Encode(m); s != "" || e != api.ErrMail {
		t.Errorf("Encode(%#v): %x %d", m, s, e)
	}
}

// noText fails unless the text is refused.
func noText(t *testing.T, s string) {
	t.Helper()
	if m, e := mail.Decode(s); !same(m, api.Mail{}) || e != api.ErrMail {
		t.Errorf("Decode(%x): %#v %d", s, m, e)
	}
}

// asWords fails unless the message is taken, or refused, as the chapter's words ask; it tells which.
func asWords(t *testing.T, m api.Mail) bool {
	t.Helper()
	if !mayBe(m) {
		noMail(t, m)
		return false
	}
	both(t, m)
	return true
}

// readAsWords fails unless the text is taken, or refused, as the chapter's words ask; it tells which.
func readAsWords(t *testing.T, s string) bool {
	t.Helper()
	m, ok := meant(s)
	if !ok {
		noText(t, s)
		return false
	}
	decoded(t, s, m)
	encoded(t, m, s)
	return true
}

// Promise 11.1: messages.

func TestExample(t *testing.T) {
	both(t, pull(3, 258, tag()))
	s, e := mail.Encode(pull(3, 258, tag()))
	if want := "\x02\x03\x00\x00\x01\x02" + tag(); s != want || e != api.OK {
		t.Errorf("%x %d, not %x", s, e, want)
	}
}

func TestMessagesAndTheirTexts(t *testing.T) {
	for _, p := range pairs() {
		if !mayBe(p.m) || byHand(p.m) != p.text {
			t.Fatalf("the test's own words: %#v", p.m)
		}
		encoded(t, p.m, p.text)
		decoded(t, p.text, p.m)
	}
}

// numbered are messages of the kinds that have a User and a Seq.
func numbered(user, seq int) []api.Mail {
	return []api.Mail{pull(user, seq, tag()), reply(user, seq, four()...), reply(user, seq, four(api.Slot{Id: id, Text: "hi"})...), ack(user, seq, tag()), ack(user, seq, tag(), id)}
}

func TestEachUser(t *testing.T) {
	right := 0
	for user := -2; user <= 600; user++ {
		for _, m := range numbered(user, 5) {
			if asWords(t, m) {
				right++
			}
		}
	}
	for _, user := range []int{math.MinInt, -1 << 32, -256, -64, 1 << 16, 1 << 32, 1<<32 + 3, math.MaxInt} {
		for _, m := range numbered(user, 5) {
			noMail(t, m)
		}
	}
	if right != 64*5 {
		t.Errorf("%d messages may be, not %d", right, 64*5)
	}
}

func TestEachSeq(t *testing.T) {
	for _, seq := range []int{1, 2, 127, 128, 255, 256, 257, 65535, 65536, 1<<24 - 1, 1 << 24, 1<<24 + 1, 1<<30 + 5, 1<<31 - 2, 1<<31 - 1} {
		for _, m := range numbered(63, seq) {
			both(t, m)
		}
	}
	for _, seq := range []int{0, -1, -2, math.MinInt32, math.MinInt, 1 << 31, 1<<31 + 1, 1<<32 - 1, 1 << 32, 1<<32 + 1, 1<<40 + 7, math.MaxInt} {
		for _, m := range numbered(0, seq) {
			noMail(t, m)
		}
	}
}

func TestPacketsOfEachLength(t *testing.T) {
	for n := range 1100 {
		if n == 504 {
			both(t, packet(drawn(7, n)))
		} else {
			noMail(t, packet(drawn(7, n)))
		}
	}
	for _, n := range []int{api.MaxBytes, api.MaxBytes + 504, 1 << 20} {
		noMail(t, packet(zeros(n)))
	}
}

func TestTagsOfEachLength(t *testing.T) {
	for n := range 600 {
		for _, m := range []api.Mail{pull(1, 2, drawn(8, n)), ack(1, 2, drawn(8, n)), ack(1, 2, drawn(8, n), id, id)} {
			if n == 32 {
				both(t, m)
			} else {
				noMail(t, m)
			}
		}
	}
}

// TestIdsOfEachLength has a wrong one at each place of an ack, and of a reply with a text and without.
func TestIdsOfEachLength(t *testing.T) {
	for n := range 300 {
		x := drawn(9, n)
		for many := 1; many <= 4; many++ {
			for at := range many {
				ids := slices.Repeat([]string{id}, many)
				ids[at] = x
				asWords(t, ack(1, 2, tag(), ids...))
				for _, text := range []string{"", "hi"} {
					slots := four(slices.Repeat([]api.Slot{{Id: id, Text: "x"}}, many)...)
					slots[at] = api.Slot{Id: x, Text: text}
					asWords(t, reply(1, 2, slots...))
				}
			}
		}
	}
	for _, n := range []int{0, 1, 15, 17, 32} {
		noMail(t, ack(1, 2, tag(), drawn(9, n)))
	}
	for _, n := range []int{1, 15, 17, 32} {
		noMail(t, reply(1, 2, four(api.Slot{Id: drawn(9, n)})...))
	}
}

// TestIdsOfBytesZero: one of them is none, wherever it stands; one bit makes it an Id.
func TestIdsOfBytesZero(t *testing.T) {
	for many := 1; many <= 4; many++ {
		for at := range many {
			ids := slices.Repeat([]string{id}, many)
			ids[at] = zeros(16)
			noMail(t, ack(1, 2, tag(), ids...))
			for _, text := range []string{"", "\x00", "hi", zeros(222)} {
				slots := four(slices.Repeat([]api.Slot{{Id: id}}, many)...)
				slots[at] = api.Slot{Id: zeros(16), Text: text}
				noMail(t, reply(1, 2, slots...))
			}
			for bit := range 128 {
				ids[at] = with(zeros(16), bit/8, 1<<(bit%8))
				both(t, ack(1, 2, tag(), ids...))
				slots := four(slices.Repeat([]api.Slot{{Id: id}}, many)...)
				slots[at] = api.Slot{Id: ids[at]}
				both(t, reply(1, 2, slots...))
			}
		}
	}
}

func TestSlotTextsOfEachLength(t *testing.T) {
	for n := range 700 {
		for at := range 4 {
			slots := four(slices.Repeat([]api.Slot{{Id: id, Text: "x"}}, at)...)
			slots[at] = api.Slot{Id: id, Text: drawn(10, n)}
			if m := reply(1, 2, slots...); n <= 222 {
				both(t, m)
			} else {
				noMail(t, m)
			}
		}
	}
	noMail(t, reply(1, 2, four(api.Slot{Id: id, Text: zeros(api.MaxBytes)})...))
}

func TestSlotsOfEachNumber(t *testing.T) {
	for many := range 20 {
		full := slices.Repeat([]api.Slot{{Id: id, Text: "x"}}, many)
		for used := range many + 1 {
			l := make([]api.Slot, many)
			copy(l, full[:used])
			if m := reply(1, 2, l...); many == 4 {
				both(t, m)
			} else {
				noMail(t, m)
			}
		}
	}
	noMail(t, reply(1, 2))
	noMail(t, reply(1, 2, []api.Slot{}...))
	noMail(t, reply(1, 2, make([]api.Slot, 1<<16)...))
}

func TestIdsOfEachNumber(t *testing.T) {
	for many := range 20 {
		if m := ack(1, 2, tag(), slices.Repeat([]string{id}, many)...); many <= 4 {
			both(t, m)
		} else {
			noMail(t, m)
		}
	}
	noMail(t, ack(1, 2, tag(), slices.Repeat([]string{id}, 1<<16)...))
	noMail(t, ack(1, 2, tag(), make([]string, 5)...))
	m := ack(1, 2, tag())
	m.Ids = make([]string, 0, 8)
	both(t, m)
}

// TestEmptySlotsAhead has each pattern of empty slots and others.
func TestEmptySlotsAhead(t *testing.T) {
	right := 0
	for pattern := range 16 {
		l := make([]api.Slot, 4)
		for i := range l {
			if pattern>>i&1 == 1 {
				l[i] = api.Slot{Id: drawn(int64(i), 16), Text: drawn(int64(i), 10*i)}
			}
		}
		m := reply(1, 2, l...)
		if pattern&(pattern+1) == 0 {
			both(t, m)
			right++
		} else {
			noMail(t, m)
			noText(t, byHand(m))
		}
	}
	if right != 5 {
		t.Errorf("%d patterns, not 5", right)
	}
}

func TestSlotsWithTextAlone(t *testing.T) {
	for _, text := range []string{"x", "\x00", "hi", zeros(222), drawn(12, 222), zeros(223)} {
		for at := range 4 {
			for _, full := range []int{0, at, 4} {
				l := four(slices.Repeat([]api.Slot{{Id: id, Text: "x"}}, full)...)
				l[at] = api.Slot{Text: text}
				noMail(t, reply(1, 2, l...))
			}
		}
	}
}

// TestWhatAKindDoesNotName: one thing too many makes each message none; an empty list is nothing.
func TestWhatAKindDoesNotName(t *testing.T) {
	for _, p := range pairs() {
		m := p.m
		more := copied(m)
		if m.Kind == api.MPacket {
			for _, n := range []int{-1, 1, 63, 256, math.MaxInt, math.MinInt} {
				noMail(t, api.Mail{Kind: m.Kind, Text: m.Text, User: n})
				noMail(t, api.Mail{Kind: m.Kind, Text: m.Text, Seq: n})
			}
		}
		for _, s := range []string{"\x00", "x", zeros(32), drawn(13, 504), drawn(13, 505)} {
			if more = copied(m); m.Kind != api.MPacket {
				more.Text = s
				noMail(t, more)
			}
			if more = copied(m); m.Kind == api.MPacket || m.Kind == api.MReply {
				more.Tag = s
				noMail(t, more)
			}
		}
		for _, l := range [][]string{{""}, {id}, {zeros(16)}, {id, id, id, id}} {
			if more = copied(m); m.Kind != api.MAck {
				more.Ids = l
				noMail(t, more)
			}
		}
		for _, l := range [][]api.Slot{{{}}, {{Id: id}}, {{}, {}, {}, {}}, {{Id: id, Text: "x"}, {}, {}, {}}} {
			if more = copied(m); m.Kind != api.MReply {
				more.Slots = l
				noMail(t, more)
			}
		}
		if m.Kind != api.MReply {
			m.Slots = []api.Slot{}
		}
		if m.Kind != api.MAck {
			m.Ids = []string{}
		}
		encoded(t, m, p.text)
	}
}

func TestKindsThatAreNone(t *testing.T) {
	for _, kind := range []int{math.MinInt, -1 << 32, -257, -256, -255, -4, -1, 0, 5, 6, 255, 256, 257, 258, 259, 260, 261, 1 << 32, 1<<32 + 1, 1<<32 + 4, math.MaxInt} {
		noMail(t, api.Mail{Kind: kind})
		for _, p := range pairs() {
			m := p.m
			m.Kind = kind
			noMail(t, m)
		}
		if n := mail.Long(kind); n != 0 {
			t.Errorf("Long(%d): %d", kind, n)
		}
	}
	noMail(t, api.Mail{})
	for _, p := range pairs() {
		for kind := 1; kind <= 4; kind++ {
			m := p.m
			m.Kind = kind
			if kind != p.m.Kind && !(p.m.Kind == api.MAck && kind == api.MPull && len(m.Ids) == 0) && !(p.m.Kind == api.MPull && kind == api.MAck) {
				noMail(t, m)
			}
		}
	}
}

// TestPullsAndAcks: a pull and an ack without Ids have the same fields, and differ by their kind.
func TestPullsAndAcks(t *testing.T) {
	for _, m := range []api.Mail{pull(3, 4, tag()), ack(3, 4, tag())} {
		both(t, m)
		m.Kind = api.MPull + api.MAck - m.Kind
		both(t, m)
	}
}

// TestFieldsTogether holds every mixture of the edges against the chapter's words.
func TestFieldsTogether(t *testing.T) {
	texts := []string{"", "x", drawn(14, 503), drawn(14, 504), drawn(14, 505)}
	tags := []string{"", drawn(15, 31), drawn(15, 32), drawn(15, 33)}
	slots := [][]api.Slot{nil, four(), four(api.Slot{Id: id}), four(api.Slot{Id: id, Text: zeros(223)}), four()[:3], append(four(), api.Slot{}), {{}, {Id: id}, {}, {}}, {{Text: "x"}, {}, {}, {}}}
	ids := [][]string{nil, {id}, {id, id, id, id}, {id, id, id, id, id}, {""}, {zeros(16)}, {id, id[:15]}}
	right := 0
	for kind := range 6 {
		for _, user := range []int{-1, 0, 63, 64} {
			for _, seq := range []int{-1, 0, 1, last, last + 1} {
				for i := range len(texts) * len(tags) * len(slots) * len(ids) {
					m := api.Mail{Kind: kind, User: user, Seq: seq}
					m.Text, i = texts[i%len(texts)], i/len(texts)
					m.Tag, i = tags[i%len(tags)], i/len(tags)
					m.Slots, i = slots[i%len(slots)], i/len(slots)
					m.Ids = ids[i]
					if asWords(t, m) {
						right++
					}
				}
			}
		}
	}
	if want := 1 + 4 + 4*2 + 4*3; right != want {
		t.Errorf("%d messages may be, not %d", right, want)
	}
}

func TestLong(t *testing.T) {
	for kind, want := range map[int]int{api.MPacket: 505, api.MPull: 38, api.MReply: 962, api.MAck: 102, 0: 0, 5: 0, -1: 0, math.MaxInt: 0, math.MinInt: 0, 257: 0, 1<<32 + 2: 0} {
		if n := mail.Long(kind); n != want {
			t.Errorf("Long(%d): %d, not %d", kind, n, want)
		}
	}
	for kind := -1000; kind <= 1000; kind++ {
		if n := mail.Long(kind); (n != 0) != (kind >= 1 && kind <= 4) {
			t.Errorf("Long(%d): %d", kind, n)
		}
	}
}

// Promise 11.1: texts.

func TestTextsOfEachLength(t *testing.T) {
	noText(t, "")
	for _, p := range pairs() {
		for n := range len(p.text) {
			noText(t, p.text[:n])
		}
		for _, more := range []string{"\x00", "x", zeros(16), zeros(239), p.text} {
			noText(t, p.text+more)
		}
		noText(t, p.text[1:])
	}
	for first := range 256 {
		for _, n := range []int{1, 2, 6, 37, 38, 39, 101, 102, 103, 504, 505, 506, 961, 962, 963, 4096, 1 << 16} {
			readAsWords(t, string([]byte{byte(first)})+strings.Repeat("\x01", n-1))
			readAsWords(t, string([]byte{byte(first)})+zeros(n-1))
			readAsWords(t, string([]byte{byte(first)})+strings.Repeat("\xff", n-1))
		}
	}
}

func TestTextsOfOtherKinds(t *testing.T) {
	for _, p := range pairs() {
		for kind := range 256 {
			if kind != p.m.Kind {
				noText(t, with(p.text, 0, byte(kind)))
			}
		}
	}
}

func TestTextsOfEachUserAndSeq(t *testing.T) {
	for _, p := range pairs() {
		if p.m.Kind == api.MPacket {
			continue
		}
		rest, kind := p.text[6:], byte(p.m.Kind)
		for user := range 256 {
			s := lead(kind, byte(user), 77) + rest
			if want := copied(p.m); user < 64 {
				want.User, want.Seq = user, 77
				decoded(t, s, want)
			} else {
				noText(t, s)
			}
		}
		for _, seq := range []uint32{1, 255, 256, 1 << 16, 1 << 24, 1<<31 - 1} {
			want := copied(p.m)
			want.Seq = int(seq)
			decoded(t, with(lead(kind, 0, seq), 1, p.text[1])+rest, want)
		}
		for _, seq := range []uint32{0, 1 << 31, 1<<31 + 1, 1<<32 - 1} {
			noText(t, lead(kind, 1, seq)+rest)
		}
	}
}

// TestTextsWhereZerosStand turns each byte that is 0 because nothing is there.
func TestTextsWhereZerosStand(t *testing.T) {
	for long := range 223 {
		for at := range 4 {
			before := strings.Repeat(inSlot(id, "x"), at)
			s := lead(3, 1, 2) + before + inSlot(id, drawn(16, long)) + strings.Repeat(nobody(), 3-at)
			start := 6 + 239*at + 17
			for place := start + long; place < start+222; place += 1 + place%7 {
				noText(t, with(s, place, 1+byte(place)%255))
			}
			if long < 222 {
				noText(t, with(s, start+long, 1))
				noText(t, with(s, start+221, 1))
			}
		}
	}
	for used := range 4 {
		s := lead(3, 1, 2) + strings.Repeat(inSlot(id, "x"), used) + strings.Repeat(nobody(), 4-used)
		for place := 6 + 239*used; place < len(s); place++ {
			for _, b := range []byte{1, 2, 128, 222, 255} {
				ofId := place < 6+239*used+16 // a byte there makes the first empty slot one with an Id
				if readAsWords(t, with(s, place, b)) != ofId {
					t.Errorf("%d slots, the byte %d", used, place)
				}
			}
		}
	}
	for used := range 4 {
		s := lead(4, 1, 2) + tag() + strings.Repeat(id, used) + zeros(16*(4-used))
		for place := 38 + 16*used; place < len(s); place++ {
			next := place < 38+16*(used+1)
			if readAsWords(t, with(s, place, 7)) != next {
				t.Errorf("%d Ids, the byte %d", used, place)
			}
		}
	}
}

// TestLengthsOfSlots has each byte where a length stands: above 222 there is none, and up to it the bytes behind must be 0.
func TestLengthsOfSlots(t *testing.T) {
	for at := range 4 {
		before, behind := strings.Repeat(inSlot(id, "x"), at), strings.Repeat(nobody(), 3-at)
		full := strings.Repeat(inSlot(id, drawn(17, 222)), 3-at)
		for n := range 256 {
			long := string([]byte{byte(n)})
			for _, room := range []string{zeros(222), strings.Repeat("\xff", 222)} {
				for _, rest := range []string{behind, full} {
					s := lead(3, 1, 2) + before + id + long + room + rest
					want := n <= 222 && (n == 222 || room == zeros(222))
					if readAsWords(t, s) != want {
						t.Errorf("slot %d, length %d", at, n)
					}
				}
			}
			// Without an Id there is no length but 0, and no byte.
			s := lead(3, 1, 2) + before + zeros(16) + long + zeros(222) + behind
			if readAsWords(t, s) != (n == 0) {
				t.Errorf("slot %d without an Id, length %d", at, n)
			}
			noText(t, lead(3, 1, 2)+before+zeros(16)+long+"x"+zeros(221)+behind)
			noText(t, lead(3, 1, 2)+before+zeros(16)+long+zeros(221)+"x"+behind)
		}
	}
}

// TestNoneAheadOfAnId has each pattern of Ids and 16 bytes 0.
func TestNoneAheadOfAnId(t *testing.T) {
	for pattern := range 16 {
		ids, slots := "", ""
		for i := range 4 {
			if pattern>>i&1 == 1 {
				ids, slots = ids+drawn(int64(i), 16), slots+inSlot(drawn(int64(i), 16), "hi")
			} else {
				ids, slots = ids+zeros(16), slots+nobody()
			}
		}
		front := pattern&(pattern+1) == 0
		if readAsWords(t, lead(4, 1, 2)+tag()+ids) != front || readAsWords(t, lead(3, 1, 2)+slots) != front {
			t.Errorf("the pattern %b", pattern)
		}
	}
	noText(t, lead(4, 1, 2)+tag()+zeros(16)+id+zeros(32))
	noText(t, lead(3, 1, 2)+nobody()+inSlot(id, "")+zeros(2*239))
}

// Promise 11.2.

// TestEachByteTurned: a text of which one byte is another is another message's, or none.
func TestEachByteTurned(t *testing.T) {
	for _, p := range pairs() {
		right := 0
		for at := range len(p.text) {
			for _, by := range []byte{1, 2, 4, 8, 16, 32, 64, 128, 255, p.text[at]} {
				s := with(p.text, at, p.text[at]^by)
				if s == p.text {
					continue
				}
				m, e := mail.Decode(s)
				if e == api.OK && same(m, p.m) {
					t.Errorf("byte %d of %x turned by %d: the same message", at, p.text, by)
				}
				if readAsWords(t, s) {
					right++
				}
			}
		}
		if right == 0 {
			t.Errorf("%x: no byte's turn made another message", p.text)
		}
	}
}

// drawnMail is one that may be.
func drawnMail(by *rand.Rand) api.Mail {
	m := api.Mail{Kind: 1 + by.Intn(4)}
	if m.Kind == api.MPacket {
		return packet(drawn(by.Int63(), 504))
	}
	m.User, m.Seq = by.Intn(64), 1+by.Intn(1<<(1+by.Intn(31))-1)
	switch m.Kind {
	case api.MPull:
		m.Tag = drawn(by.Int63(), 32)
	case api.MReply:
		m.Slots = four()
		for i := range by.Intn(5) {
			m.Slots[i] = api.Slot{Id: drawn(by.Int63(), 16), Text: drawn(by.Int63(), by.Intn(223))}
		}
	case api.MAck:
		m.Tag = drawn(by.Int63(), 32)
		for range by.Intn(5) {
			m.Ids = append(m.Ids, drawn(by.Int63(), 16))
		}
	}
	return m
}

func TestEncodedIsDecoded(t *testing.T) {
	by := rand.New(rand.NewSource(112))
	seen := map[string]api.Mail{}
	for range 5000 {
		m := drawnMail(by)
		s, e := mail.Encode(m)
		if e != api.OK || len(s) != mail.Long(m.Kind) || s != byHand(m) {
			t.Fatalf("Encode(%#v): %x %d", m, s, e)
		}
		if other, ok := seen[s]; ok && !same(other, m) {
			t.Fatalf("%x: %#v and %#v", s, m, other)
		}
		seen[s] = m
		both(t, m)
	}
}

// TestDecodedIsEncoded draws texts near to those of messages: what is decoded has just that text, and may be.
func TestDecodedIsEncoded(t *testing.T) {
	by := rand.New(rand.NewSource(211))
	right, wrong := 0, 0
	for range 20000 {
		b := []byte(byHand(drawnMail(by)))
		for range by.Intn(3) {
			at := by.Intn(len(b))
			if by.Intn(2) == 0 {
				at = by.Intn(min(len(b), 24))
			}
			b[at] = byte(by.Intn(256) >> by.Intn(8))
		}
		if by.Intn(4) == 0 {
			at := by.Intn(len(b))
			clear(b[at:min(len(b), at+by.Intn(40))])
		}
		if readAsWords(t, string(b)) {
			right++
		} else {
			wrong++
		}
	}
	if right < 2000 || wrong < 2000 {
		t.Errorf("%d messages, %d texts of none: too few to tell", right, wrong)
	}
}

// Rules that hold everywhere.

// TestMessagesAreLeft: neither a message nor what lies behind its lists' lengths is written, and the latter is not read.
func TestMessagesAreLeft(t *testing.T) {
	slots := append(four(api.Slot{Id: id, Text: "hi"}), api.Slot{Text: "behind"}, api.Slot{Id: id})
	ids := []string{id, id, "", "behind", zeros(16), id}
	for _, m := range []api.Mail{reply(1, 2, slots[:4]...), reply(1, 2, slots[:3]...), ack(1, 2, tag(), ids[:2]...), ack(1, 2, tag(), ids[:0]...), ack(1, 2, tag(), ids[:3]...), ack(1, 2, tag(), ids...), reply(1, 2, slots...)} {
		keptSlots, keptIds := slices.Clone(slots), slices.Clone(ids)
		asWords(t, m)
		if !slices.Equal(slots, keptSlots) || !slices.Equal(ids, keptIds) {
			t.Fatalf("%#v: the lists became %q and %q", m, slots, ids)
		}
	}
	m := pull(1, 2, tag())
	m.Slots, m.Ids = slots[:0], ids[:0]
	both(t, m)
}

// shown is a string that shows the bytes of memory that can be written.
func shown(b []byte) string { return unsafe.String(unsafe.SliceData(b), len(b)) }

// TestAnswersAreNewMemory: memory of what was handed in that is written anew later does not show in answers, nor is it written.
func TestAnswersAreNewMemory(t *testing.T) {
	for _, p := range pairs() {
		b := []byte(p.text)
		m, e := mail.Decode(shown(b))
		if string(b) != p.text {
			t.Fatal("the text was written")
		}
		clear(b)
		if e != api.OK || !same(m, p.m) {
			t.Errorf("Decode(%x): %#v %d", p.text, m, e)
		}
	}
	text, mark, name := []byte(drawn(18, 504)), []byte(tag()), []byte(id)
	p, _ := mail.Encode(packet(shown(text)))
	a, _ := mail.Encode(ack(1, 2, shown(mark), shown(name)))
	r, _ := mail.Encode(reply(1, 2, four(api.Slot{Id: shown(name), Text: shown(mark)})...))
	clear(text)
	clear(mark)
	clear(name)
	if p != "\x01"+drawn(18, 504) || a != lead(4, 1, 2)+tag()+id+zeros(48) || r != lead(3, 1, 2)+inSlot(id, tag())+zeros(3*239) {
		t.Errorf("%x %x %x", p, a, r)
	}
}

// TestAnswersDoNotShare: one answer's lists, written and grown, leave another's as they are.
func TestAnswersDoNotShare(t *testing.T) {
	for _, p := range pairs() {
		m, _ := mail.Decode(p.text)
		n, _ := mail.Decode(p.text)
		slots, ids := m.Slots[:cap(m.Slots)], m.Ids[:cap(m.Ids)]
		for i := range slots {
			slots[i] = api.Slot{Id: "z", Text: "z"}
		}
		for i := range ids {
			ids[i] = "z"
		}
		if !same(n, p.m) {
			t.Errorf("%x: %#v", p.text, n)
		}
		decoded(t, p.text, p.m)
	}
}

// TestCallsDoNotTouch: calls at the same time tell what calls one after the other do.
func TestCallsDoNotTouch(t *testing.T) {
	all := pairs()
	var wait sync.WaitGroup
	for i := range 16 {
		wait.Go(func() {
			for k := range 300 {
				p := all[(i+k)%len(all)]
				s, e := mail.Encode(p.m)
				m, f := mail.Decode(p.text)
				if s != p.text || e != api.OK || !same(m, p.m) || f != api.OK {
					t.Errorf("%#v: %x %d %#v %d", p.m, s, e, m, f)
				}
			}
		})
	}
	wait.Wait()
}

// TestBigThings: what is far too much is refused, and not gone through at length.
func TestBigThings(t *testing.T) {
	big := strings.Repeat("\x03", 1<<24)
	for range 50 {
		noTextOf(t, big)
		for _, m := range []api.Mail{packet(big), pull(1, 2, big), ack(1, 2, tag(), big), reply(1, 2, four(api.Slot{Id: big, Text: big})...), reply(1, 2, four(api.Slot{Id: id, Text: big})...)} {
			if s, e := mail.Encode(m); s != "" || e != api.ErrMail || mail.Check(m) != api.ErrMail {
				t.Fatalf("%d: error %d", m.Kind, e)
			}
		}
	}
}

// noTextOf is noText, without telling the text.
func noTextOf(t *testing.T, s string) {
	t.Helper()
	if m, e := mail.Decode(s); !same(m, api.Mail{}) || e != api.ErrMail {
		t.Fatalf("%d bytes: error %d", len(s), e)
	}
}
