package host_test

import (
	"crypto/sha256"
	"encoding/binary"
	"fmt"
	"math"
	"math/rand"
	"slices"
	"strings"
	"testing"

	"dovecote/api"
	"dovecote/curve"
	"dovecote/disk"
	"dovecote/head"
	"dovecote/host"
	"dovecote/keyed"
	"dovecote/mail"
	"dovecote/seen"
	"dovecote/stream"
	"dovecote/wide"
)

// wrongPools and wrongQuotas are numbers that may not be.
func wrongPools() []int {
	return []int{0, -1, -16, 4097, 4098, 1 << 16, 1 << 31, 1<<32 + 1, math.MaxInt, math.MinInt}
}

func wrongQuotas() []int {
	return []int{0, -1, -16, 257, 258, 512, 1 << 31, 1<<32 + 1, math.MaxInt, math.MinInt}
}

// wrongKeys is texts that no private key, and no account's, is.
func wrongKeys() (l []string) {
	for _, n := range []int{0, 1, 16, 31, 33, 34, 63, 64, 504, 1 << 16} {
		l = append(l, strings.Repeat("k", n))
	}
	return l
}

// refusal is accounts that may not be, and why.
type refusal struct {
	l []api.Account
	e api.Errno
}

func wrongAccounts() []refusal {
	short, long := api.Account{User: 1, Key: key(1)[1:]}, api.Account{User: 2, Key: key(2) + "x"}
	many := accounts(users(0, 64)...)
	l := []refusal{
		{append(many, accounts(0)...), api.ErrLong},
		{make([]api.Account, 65), api.ErrLong},
		{make([]api.Account, 4096), api.ErrLong},
		{[]api.Account{{}}, api.ErrForm},
		{[]api.Account{short}, api.ErrForm},
		{[]api.Account{long}, api.ErrForm},
		{append(accounts(0, 2, 3), short), api.ErrForm},
		{append(accounts(1), short), api.ErrThere},
		{accounts(5, 5), api.ErrThere},
		{accounts(5, 6, 7, 5), api.ErrThere},
		{append(many[:63:63], accounts(0)...), api.ErrThere},
		{append(accounts(5, 5), long), api.ErrThere},
		{[]api.Account{long, {User: 2, Key: key(2)}}, api.ErrForm},
		{[]api.Account{short, {User: -1}}, api.ErrForm},
		{[]api.Account{{User: 64}, short}, api.ErrRange},
	}
	for _, u := range []int{-1, 64, 65, 256, 1 << 32, math.MaxInt, math.MinInt} {
		l = append(l, refusal{accounts(u), api.ErrRange}, refusal{accounts(1, 2, u, 2), api.ErrRange}, refusal{[]api.Account{{User: u}}, api.ErrRange})
	}
	return l
}

// users are those from one to below another.
func users(from, to int) (l []int) {
	for u := from; u < to; u++ {
		l = append(l, u)
	}
	return l
}

// turned is the text with the byte at a place xor another.
func turned(s string, at int, by byte) string {
	return s[:at] + string([]byte{s[at] ^ by}) + s[at+1:]
}

func drawnText(by *rand.Rand, long int) string {
	b := make([]byte, long)
	by.Read(b)
	return string(b)
}

// takeDown leaves a disk that is down.
func takeDown(t *testing.T, d *disk.Disk) {
	t.Helper()
	is(t, d.Fuse(1), api.OK)
	is(t, d.Sync(), api.ErrDown)
}

func downDisk(t *testing.T) *disk.Disk {
	t.Helper()
	d := newDisk(t, 20)
	takeDown(t, d)
	return d
}

// laidDisk is a disk with a log of these records.
func laidDisk(t *testing.T, records ...string) *disk.Disk {
	t.Helper()
	d := newDisk(t, 20)
	lay(t, d, records...)
	return d
}

// read is all sectors of a disk that is up.
func read(t *testing.T, d *disk.Disk) (l []string) {
	t.Helper()
	for i := range d.Size() {
		s, e := d.Read(i)
		is(t, e, api.OK)
		l = append(l, s)
	}
	return l
}

// quiet fails unless a call neither writes nor syncs any of the disks: a fuse of 1 is not through.
func quiet(t *testing.T, call func(), l ...*disk.Disk) {
	t.Helper()
	var was [][]string
	for _, d := range l {
		if d.Waits() != 0 {
			t.Fatal("something waits already")
		}
		was = append(was, read(t, d))
		is(t, d.Fuse(1), api.OK)
	}
	call()
	for i, d := range l {
		if d.Waits() != 0 || !slices.Equal(read(t, d), was[i]) {
			t.Fatal("a disk was written")
		}
		is(t, d.Sync(), api.ErrDown)
		is(t, d.Crash(), api.OK)
	}
}

// given is what New is handed.
type given struct {
	private     string
	d           disks
	l           []api.Account
	pool, quota int
}

// right is all that New may be handed, with accounts of some users.
func right(t *testing.T) given {
	t.Helper()
	return given{private(0), newDisks(t, 20, 20), accounts(1, 2, 3), 4, 4}
}

// new fails unless New answers this, and a host just beside OK.
func (g given) new(t *testing.T, want api.Errno) *host.Host {
	t.Helper()
	h, e := host.New(g.private, g.d.tags, g.d.boxes, g.l, g.pool, g.quota)
	if e != want || (h != nil) != (want == api.OK) {
		t.Fatalf("New: a host %t, error %d; want %d", h != nil, e, want)
	}
	return h
}

// goesOn fails unless just these packets go on by that time.
func goesOn(t *testing.T, h *host.Host, to int, want ...api.Out) {
	t.Helper()
	l, e := h.Tick(to)
	is(t, e, api.OK)
	told(t, l, want)
}

// isNew fails unless a host has an empty pool, and the time 0, and counted nothing.
func isNew(t *testing.T, h *host.Host) {
	t.Helper()
	tells(t, h, api.Counts{}, 0)
	told(t, h.Back(), nil)
	goesOn(t, h, 0)
	l, e := h.Tick(-1)
	is(t, e, api.ErrLate)
	told(t, l, nil)
}

// isEmpty fails unless all boxes of a host have no entry.
func isEmpty(t *testing.T, h *host.Host) {
	t.Helper()
	for user := -1; user < 65; user++ {
		if n := h.Len(user); n != 0 {
			t.Fatalf("Len(%d): %d", user, n)
		}
	}
}

// pulls fails unless a host replies this to a pull.
func pulls(t *testing.T, h *host.Host, user, seq int, want ...api.Slot) {
	t.Helper()
	got, e := h.Take(pull(user, seq))
	is(t, e, api.OK)
	if got != reply(user, seq, want...) {
		t.Fatalf("the reply is %q; want %q", got, want)
	}
}

// taken fails unless a host answers this, and no reply.
func taken(t *testing.T, h *host.Host, text string, want api.Errno) {
	t.Helper()
	r, e := h.Take(text)
	is(t, e, want)
	if r != "" {
		t.Fatalf("there is a reply: %q", r)
	}
}

// Promise 21.1.

func TestNew(t *testing.T) {
	for _, sectors := range []int{4, 5, 6, 63, 1024} {
		for _, pool := range []int{1, 2, 4095, 4096} {
			for _, quota := range []int{1, 2, 255, 256} {
				g := right(t)
				g.d, g.pool, g.quota = newDisks(t, sectors, 1028-sectors), pool, quota
				h := g.new(t, api.OK)
				isNew(t, h)
				isEmpty(t, h)
				holds(t, g.d.tags)
				holds(t, g.d.boxes)
			}
		}
	}
}

// TestAccounts: none, in two ways, some, and api.MaxUsers of them, in any order.
func TestAccounts(t *testing.T) {
	backward := users(0, 64)
	slices.Reverse(backward)
	for _, l := range [][]int{nil, {}, {0}, {63}, {7, 3, 63, 0}, users(0, 63), users(0, 64), backward} {
		g := right(t)
		g.l = accounts(l...)
		h := g.new(t, api.OK)
		isNew(t, h)
		for user := range 64 {
			if !slices.Contains(l, user) {
				taken(t, h, pull(user, 1), api.ErrAuth)
				continue
			}
			pulls(t, h, user, 1)
			taken(t, h, pull(user, 1), api.ErrSeen)
		}
		tells(t, h, api.Counts{}, 0)
	}
}

// TestPrivateKeys: any 32 bytes are one. ErrForm is named first, so that it is told beside all else that is wrong, and the disks are left alone.
func TestPrivateKeys(t *testing.T) {
	for _, key := range []string{zeros(32), strings.Repeat("\xff", 32), strings.Repeat("k", 32), "\x00" + strings.Repeat("\xf0", 31)} {
		p, e := curve.Public(key)
		is(t, e, api.OK)
		g := right(t)
		g.private = key
		h := g.new(t, api.OK)
		taken(t, h, carries(made(1, []string{p}, "", drop())), api.OK)
		taken(t, h, carries(made(2, []string{p, p}, "", on(3, 0), drop())), api.OK)
		taken(t, h, carries(made(3, []string{p}, "hi", home(3, 0, id(1)))), api.OK)
		taken(t, h, carries(packet(3, drop())), api.ErrMac)
		tells(t, h, api.Counts{On: 1, Home: 1, Drop: 1, Bad: 1}, 1)
		pulls(t, h, 3, 1, api.Slot{Id: id(1), Text: "hi"})
	}
	for _, key := range wrongKeys() {
		for _, pool := range []int{0, 1, 4097} {
			for _, quota := range []int{0, 1, 257} {
				for _, l := range [][]api.Account{nil, accounts(1, 1), make([]api.Account, 65)} {
					g := given{key, newDisks(t, 20, 20), l, pool, quota}
					quiet(t, func() { g.new(t, api.ErrForm) }, g.d.tags, g.d.boxes)
					for _, d := range []disks{{}, {downDisk(t), downDisk(t)}, newDisks(t, 3, 3), {laidDisk(t, "x"), laidDisk(t, "x")}} {
						g.d = d
						g.new(t, api.ErrForm)
					}
				}
			}
		}
	}
}

// TestPoolsAndQuotas that may not be. A pool is told ahead of what is wrong with the disk of tags, and that is left alone; so with the quota and the disk of boxes.
func TestPoolsAndQuotas(t *testing.T) {
	for _, pool := range wrongPools() {
		g := right(t)
		g.pool = pool
		quiet(t, func() { g.new(t, api.ErrRange) }, g.d.tags, g.d.boxes)
		for _, d := range []*disk.Disk{nil, newDisk(t, 3), downDisk(t), laidDisk(t, "x")} {
			g.d.tags = d
			quiet(t, func() { g.new(t, api.ErrRange) }, g.d.boxes)
		}
	}
	for _, quota := range wrongQuotas() {
		g := right(t)
		g.quota = quota
		quiet(t, func() { g.new(t, api.ErrRange) }, g.d.boxes)
		for _, d := range []*disk.Disk{nil, newDisk(t, 3), downDisk(t), laidDisk(t, "x")} {
			g.d.boxes = d
			g.new(t, api.ErrRange)
		}
	}
}

// TestDisksThatMayNotBe, in the place of each of the two.
func TestDisksThatMayNotBe(t *testing.T) {
	both := map[api.Errno]func() []*disk.Disk{
		api.ErrNone:  func() []*disk.Disk { return []*disk.Disk{nil} },
		api.ErrShape: func() []*disk.Disk { return []*disk.Disk{newDisk(t, 1), newDisk(t, 2), newDisk(t, 3), {}} },
		api.ErrDown:  func() []*disk.Disk { return []*disk.Disk{downDisk(t)} },
	}
	for want, l := range both {
		for _, d := range l() {
			g := right(t)
			g.d.tags = d
			quiet(t, func() { g.new(t, want) }, g.d.boxes)
		}
		for _, d := range l() {
			g := right(t)
			g.d.boxes = d
			g.new(t, want)
		}
	}
	tags := [][]string{{"x"}, {"T" + id(1), "Tshort"}, {recordE(2), recordE(1)}, {recordE(1 << 31)}, {recordP(1, id(1), "a box's")}}
	for _, records := range tags {
		g := right(t)
		g.d.tags = laidDisk(t, records...)
		quiet(t, func() { g.new(t, api.ErrRot) }, g.d.tags, g.d.boxes)
		holds(t, g.d.tags, records...)
	}
	boxes := [][]string{{"x"}, {recordP(64, id(1), "")}, {recordP(1, zeros(16), "")}, {recordP(1, id(1), strings.Repeat("x", 223))}, {recordP(1, id(1), "a"), recordP(1, id(1), "b")}, {recordA(1, id(1))}, {recordT(id(1))}, {recordE(1)}}
	for _, records := range boxes {
		g := right(t)
		g.d.boxes = laidDisk(t, records...)
		quiet(t, func() { g.new(t, api.ErrRot) }, g.d.boxes)
		holds(t, g.d.boxes, records...)
	}
}

// TestDisksOfTheOtherKind: those of a host, the one in the place of the other.
func TestDisksOfTheOtherKind(t *testing.T) {
	g := right(t)
	g.new(t, api.OK)
	g.d.tags, g.d.boxes = g.d.boxes, g.d.tags
	h := g.new(t, api.OK) // nothing is on either
	taken(t, h, carries(letter(1, 1, id(1), "hi")), api.OK)
	g.d.tags, g.d.boxes = g.d.boxes, g.d.tags
	g.new(t, api.ErrRot)
	g.d.tags = newDisk(t, 20)
	g.new(t, api.ErrRot)
	g.d.tags, g.d.boxes = g.d.boxes, newDisk(t, 20)
	taken(t, g.new(t, api.OK), carries(letter(1, 1, id(1), "hi")), api.ErrSeen)
}

func TestAccountsThatMayNotBe(t *testing.T) {
	for _, x := range wrongAccounts() {
		g := right(t)
		g.l = x.l
		g.new(t, x.e)
	}
}

// TestNewRefusesInOrder has all mixtures of what can be wrong: what is named first is told.
func TestNewRefusesInOrder(t *testing.T) {
	var l []refusal // what the accounts can be refused for
	l = append(l, refusal{accounts(1), api.OK})
	for _, x := range wrongAccounts()[:9] {
		l = append(l, x)
	}
	disksOf := func() ([]*disk.Disk, []api.Errno) {
		return []*disk.Disk{newDisk(t, 20), nil, newDisk(t, 3), downDisk(t), laidDisk(t, "x")}, []api.Errno{api.OK, api.ErrNone, api.ErrShape, api.ErrDown, api.ErrRot}
	}
	first := func(l ...api.Errno) api.Errno {
		for _, e := range l {
			if e != api.OK {
				return e
			}
		}
		return api.OK
	}
	numbers := []api.Errno{api.OK, api.ErrRange}
	for mixture := range 2 * 2 * 2 * 5 * 5 * len(l) {
		pick := func(many int) (k int) {
			k, mixture = mixture%many, mixture/many
			return k
		}
		long, pool, quota, tags, boxes, account := pick(2), pick(2), pick(2), pick(5), pick(5), l[pick(len(l))]
		dt, et := disksOf()
		db, eb := disksOf()
		g := given{private(0)[long:], disks{dt[tags], db[boxes]}, account.l, 1 - pool, 1 + 256*quota}
		g.new(t, first([]api.Errno{api.OK, api.ErrForm}[long], numbers[pool], et[tags], numbers[quota], eb[boxes], account.e))
	}
}

// TestNewOfDisksThatRefuse: a fuse at each write and sync on the way, of each of the disks, on such without a log and such with something behind its log's records.
func TestNewOfDisksThatRefuse(t *testing.T) {
	for name, begin := range map[string]func(d *disk.Disk){
		"new": func(d *disk.Disk) {},
		"full of something else": func(d *disk.Disk) {
			for i := range d.Size() {
				is(t, d.Write(i, strings.Repeat("w", 64)), api.OK)
			}
		},
		"torn": func(d *disk.Disk) {
			lay(t, d)
			is(t, d.Write(3, strings.Repeat("w", 64)), api.OK)
			is(t, d.Write(5, strings.Repeat("w", 64)), api.OK)
		},
	} {
		for which := range 2 {
			for n := 1; ; n++ {
				g := right(t)
				d := []*disk.Disk{g.d.tags, g.d.boxes}[which]
				begin(d)
				is(t, d.Sync(), api.OK)
				is(t, d.Fuse(n), api.OK)
				h, e := host.New(g.private, g.d.tags, g.d.boxes, g.l, g.pool, g.quota)
				if e == api.OK && h != nil && n > 2 {
					break
				}
				if e != api.ErrDown || h != nil || n > 40 {
					t.Fatalf("%s, a fuse of %d: a host %t, error %d", name, n, h != nil, e)
				}
				is(t, d.Crash(64, 64, 7), api.OK)
				h = g.new(t, api.OK)
				isNew(t, h)
				isEmpty(t, h)
			}
		}
	}
}

// TestFusesOfBothDisks: that of tags is opened first.
func TestFusesOfBothDisks(t *testing.T) {
	g := right(t)
	is(t, g.d.tags.Fuse(1), api.OK)
	is(t, g.d.boxes.Fuse(1), api.OK)
	g.new(t, api.ErrDown)
	if _, e := g.d.boxes.Read(0); e != api.OK {
		t.Fatal("the disk of boxes is down")
	}
	g.quota = 0
	g.new(t, api.ErrDown)
	is(t, g.d.tags.Crash(), api.OK)
	g.new(t, api.ErrRange)
	g.quota = 1
	g.new(t, api.ErrDown)
}

// TestWhatIsOnTheDisks: tags of two epochs, and entries, more than the quota, and of users without an account.
func TestWhatIsOnTheDisks(t *testing.T) {
	l := []string{packet(1, on(1, 0)), letter(2, 1, id(2), "two"), packet(3, drop()), letter(4, 1, id(4), "four")}
	x := newPair(t, 20, 40)
	x.lays([]string{tagOf(l[0]), recordE(6), tagOf(l[1]), recordE(7), tagOf(l[2])},
		[]string{recordP(1, id(1), "a"), recordP(9, id(1), "nine's"), recordP(1, id(2), ""), recordA(1, id(1)), recordP(1, id(3), "c"), recordP(63, id(9), "")})
	is(t, x.open(4, 1, 1, 2), api.OK)
	isNew(t, x.h)
	x.comes(l[0]) // its epoch is over
	x.bad(api.ErrSeen, l[1], l[2])
	x.bad(api.ErrFull, l[3])
	x.bad(api.ErrSeen, l[3])
	x.shows(1, api.Slot{Id: id(2)}, api.Slot{Id: id(3), Text: "c"})
	x.shows(2)
	x.refuses(api.ErrAuth, pull(9, 1), pull(63, 1))
	for user, n := range map[int]int{0: 0, 1: 2, 2: 0, 9: 1, 63: 1} {
		if got := x.h.Len(user); got != n {
			t.Fatalf("Len(%d): %d; want %d", user, got, n)
		}
	}
	is(t, x.open(4, 3, 9, 1), api.OK)
	x.shows(9, api.Slot{Id: id(1), Text: "nine's"})
	x.acked(9, id(1))
	x.shows(9)
	x.comes(letter(5, 1, id(5), "five"))
	x.bad(api.ErrFull, letter(6, 1, id(6), "six"))
	x.shows(1, api.Slot{Id: id(2)}, api.Slot{Id: id(3), Text: "c"}, api.Slot{Id: id(5), Text: "five"})
}

// TestRecordsOfCalls: what of each call is on which disk, and that all else writes nothing.
func TestRecordsOfCalls(t *testing.T) {
	x := opened(t, 40, 40, 1, 2, 1, 2)
	a, b, c, d, f := packet(1, on(1, 0)), packet(2, on(2, 0)), packet(3, loop(id(3))), letter(4, 1, id(4), "four"), packet(5, drop())
	x.comes(a, d)
	quiet(t, func() {
		for _, s := range []string{carries(a), carries(b)} {
			taken(t, x.h, s, api.ErrPool)
		}
		taken(t, x.h, carries(d), api.ErrSeen)
		taken(t, x.h, carries(letter(6, 3, id(6), "")), api.ErrAuth)
		taken(t, x.h, carries(turned(d, 40, 1)), api.ErrMac)
		taken(t, x.h, carries(turned(d, 400, 1)), api.ErrBody)
		taken(t, x.h, d, api.ErrMail)
		taken(t, x.h, "", api.ErrMail)
		pulls(t, x.h, 1, 1, api.Slot{Id: id(4), Text: "four"})
		pulls(t, x.h, 2, 1)
		taken(t, x.h, pull(1, 1), api.ErrSeen)
		taken(t, x.h, ack(1, 1, id(4)), api.ErrSeen)
		taken(t, x.h, ackBy(key(2), 1, 2, id(4)), api.ErrAuth)
		taken(t, x.h, ack(1, 2), api.OK)
		taken(t, x.h, ack(1, 3, id(9)), api.OK)
		taken(t, x.h, ack(2, 4, id(4)), api.OK)
		goesOn(t, x.h, 1, goes(a))
		x.h.Tick(maxTick)
		x.h.Back()
		x.h.Len(1)
		taken(t, x.h, carries(b), api.ErrRange)
		tells(t, x.h, api.Counts{On: 1, Home: 1, Twice: 1, Bad: 6}, 0)
	}, x.d.tags, x.d.boxes)
	holds(t, x.d.tags, tagOf(a), tagOf(d))
	holds(t, x.d.boxes, recordP(1, id(4), "four"))
	is(t, x.open(1, 2, 1, 2), api.OK)
	quiet(t, func() {
		taken(t, x.h, carries(b), api.OK)
		taken(t, x.h, carries(c), api.OK)
		is(t, x.h.Rotate(), api.OK)
		taken(t, x.h, carries(f), api.OK)
	}, x.d.boxes)
	quiet(t, func() { taken(t, x.h, ack(1, 1, id(4)), api.OK) }, x.d.tags)
	holds(t, x.d.tags, tagOf(a), tagOf(d), tagOf(b), tagOf(c), recordE(1), tagOf(f))
	holds(t, x.d.boxes, recordP(1, id(4), "four"), recordA(1, id(4)))
}

// Promise 21.2: packets.

func TestExample(t *testing.T) {
	x := opened(t, 20, 20, 4, 4, 3)
	x.comes(letter(1, 3, id(1), "hi"))
	r, e := x.take(pull(3, 1))
	is(t, e, api.OK)
	m, e := mail.Decode(r)
	is(t, e, api.OK)
	if m.Kind != api.MReply || m.User != 3 || m.Seq != 1 {
		t.Fatalf("the reply is %v", m)
	}
	told(t, m.Slots, []api.Slot{{Id: id(1), Text: "hi"}, {}, {}, {}})
}

// TestEachKind: what a command does, and nothing else.
func TestEachKind(t *testing.T) {
	for _, x := range []struct {
		tells  api.Hop
		counts api.Counts
		waits  int
		back   []string
		box    []api.Slot
	}{
		{on(0, 0), api.Counts{On: 1}, 1, nil, nil},
		{on(31, 4096), api.Counts{On: 1}, 1, nil, nil},
		{loop(id(1)), api.Counts{Loop: 1}, 0, []string{id(1)}, nil},
		{loop(zeros(16)), api.Counts{Loop: 1}, 0, []string{zeros(16)}, nil},
		{drop(), api.Counts{Drop: 1}, 0, nil, nil},
		{home(0, 0, id(1)), api.Counts{Home: 1}, 0, nil, []api.Slot{{Id: id(1), Text: "the text"}}},
	} {
		y := opened(t, 20, 20, 1, 1, 0)
		y.comes(packet(7, x.tells))
		tells(t, y.h, x.counts, x.waits)
		told(t, y.back(), x.back)
		y.shows(0, x.box...)
		tells(t, y.h, x.counts, x.waits)
	}
}

// TestHome: of each user; a delay is passed over; ids and texts are any that may be.
func TestHome(t *testing.T) {
	x := opened(t, 400, 1024, 1, 8, users(0, 64)...)
	for user := range 64 {
		x.comes(packets(making{0, user, home(user, user*65, id(user)), fmt.Sprint("to ", user)}))
	}
	for user := range 64 {
		x.shows(user, api.Slot{Id: id(user), Text: fmt.Sprint("to ", user)})
	}
	x = opened(t, 400, 1024, 1, 256, 5)
	var want []api.Slot
	for k, s := range []string{"\x00", strings.Repeat("\x00", 222), strings.Repeat("\xff", 222), "a\nb\xc3", strings.Repeat("x", 221)} {
		x.comes(letter(k, 5, id(k), s))
		want = append(want, api.Slot{Id: id(k), Text: s})
	}
	for k, n := range []int{0, 1, 2, 27, 28, 29, 92, 93, 200, 220, 221, 222} {
		s := strings.Repeat("t", n)
		x.comes(letter(100+k, 5, id(100+k), s))
		want = append(want, api.Slot{Id: id(100 + k), Text: s})
	}
	for k, s := range []string{zeros(15) + "\x01", "\x01" + zeros(15), strings.Repeat("\xff", 16), "\x00\x00\x00\x00\x00\x00\x00\x01" + zeros(8)} {
		x.comes(letter(200+k, 5, s, "id"))
		want = append(want, api.Slot{Id: s, Text: "id"})
	}
	for len(want) > 0 {
		n := min(len(want), 4)
		x.shows(5, want[:n]...)
		var l []string
		for _, s := range want[:n] {
			l = append(l, s.Id)
		}
		x.acked(5, l...)
		want = want[n:]
	}
	x.shows(5)
}

// TestHomeHasNoPool, and no time: it comes beside a full pool, and at the end of time.
func TestHomeHasNoPool(t *testing.T) {
	x := opened(t, 40, 40, 1, 8, 1)
	x.comes(packet(1, on(1, 4096)), packets(making{0, 2, home(1, 4096, id(2)), "two"}))
	x.bad(api.ErrPool, packet(3, on(1, 0)))
	x.comes(letter(4, 1, id(4), "four"))
	x.ticks(maxTick, packet(1, on(1, 4096)))
	x.bad(api.ErrRange, packet(3, on(1, 0)))
	x.comes(packets(making{0, 5, home(1, 4096, id(5)), "five"}))
	x.shows(1, api.Slot{Id: id(2), Text: "two"}, api.Slot{Id: id(4), Text: "four"}, api.Slot{Id: id(5), Text: "five"})
	tells(t, x.h, api.Counts{On: 1, Home: 3, Bad: 2}, 0)
}

// TestRefusedHome: what was counted, and whether its tag was seen, of each reason.
func TestRefusedHome(t *testing.T) {
	for name, x := range map[string]struct {
		p    string
		e    api.Errno
		seen bool
	}{
		"no account":       {letter(9, 4, id(9), "hi"), api.ErrAuth, false},
		"its tag was seen": {letter(1, 1, id(9), "hi"), api.ErrSeen, false},
		"no id":            {letter(9, 2, zeros(16), "hi"), api.ErrForm, true},
		"its id is there":  {letter(9, 2, id(2), "hi"), api.ErrThere, true},
		"a full box":       {letter(9, 1, id(9), "hi"), api.ErrFull, true},
		"no id, full":      {letter(9, 1, zeros(16), "hi"), api.ErrForm, true},
		"there, full":      {letter(9, 1, id(1), "hi"), api.ErrThere, true},
		"no room":          {letter(9, 2, id(9), strings.Repeat("x", 222)), api.ErrSpace, true},
		"a turned payload": {turned(letter(9, 2, id(9), "hi"), 300, 1), api.ErrBody, false},
		"a turned list":    {turned(letter(9, 2, id(9), "hi"), 60, 1), api.ErrMac, false},
	} {
		y := opened(t, 40, 12, 1, 2, 1, 2) // room for five sectors
		y.comes(letter(1, 1, id(1), "one"), letter(2, 2, id(2), ""), letter(3, 1, id(3), "three"))
		records := []string{tagOf(letter(1, 1, id(1), "one")), tagOf(letter(2, 2, id(2), "")), tagOf(letter(3, 1, id(3), "three"))}
		counts := api.Counts{Home: 3, Bad: 1}
		if x.e == api.ErrSeen {
			counts = api.Counts{Home: 3, Twice: 1}
		}
		y.bad(x.e, x.p)
		tells(t, y.h, counts, 0)
		if again := x.e; x.seen {
			records = append(records, tagOf(x.p))
			y.bad(api.ErrSeen, x.p)
			counts.Twice++
		} else {
			y.bad(again, x.p)
			counts.Bad, counts.Twice = 2*counts.Bad, 2*counts.Twice
		}
		tells(t, y.h, counts, 0)
		holds(t, y.d.tags, records...)
		holds(t, y.d.boxes, recordP(1, id(1), "one"), recordP(2, id(2), ""), recordP(1, id(3), "three"))
		is(t, y.open(1, 3, 1, 2, 4), api.OK)
		want := x.e
		switch {
		case x.seen:
			want = api.ErrSeen
		case x.e == api.ErrAuth: // it was not seen, and there is an account now
			want = api.OK
		}
		_, e := y.take(carries(x.p))
		if e != want {
			t.Fatalf("%s: opened anew the error is %d; want %d", name, e, want)
		}
	}
}

// TestTakeRefusesHomeInOrder has all mixtures of what can be wrong: what is named first is told, and the tag is seen just where all ahead of it was right.
func TestTakeRefusesHomeInOrder(t *testing.T) {
	t.Parallel()
	several(t, 1<<10, func(t *testing.T, mixture int) {
		bit := func(k int) bool { return mixture>>k&1 > 0 }
		torn, noAccount, wasSeen, noTagRoom, tagsDown := bit(0), bit(1), bit(2), bit(3), bit(4)
		noId, there, full, noBoxRoom, boxesDown := bit(5), bit(6), bit(7), bit(8), bit(9)
		which := id(9)
		if noId {
			which = zeros(16)
		}
		p := letter(1, 1, which, "hi")
		tags := []string{recordT(id(1)), recordT(id(2)), recordT(id(3)), recordT(id(4)), recordT(id(5))}
		if wasSeen {
			tags[0] = tagOf(p)
		}
		if !noTagRoom {
			tags = tags[:2]
		}
		boxes := []string{recordP(1, id(1), ""), recordP(2, id(2), ""), recordP(2, id(3), ""), recordP(2, id(4), ""), recordP(2, id(5), "")}
		if there {
			boxes[0] = recordP(1, id(9), "")
		}
		if full {
			boxes[1] = recordP(1, id(2), "")
		}
		if !noBoxRoom {
			boxes = boxes[:2]
		}
		x := newPair(t, 12, 12) // room for five records
		x.lays(tags, boxes)
		l := []int{1, 2}
		if noAccount {
			l = []int{2}
		}
		is(t, x.open(1, 2, l...), api.OK)
		for _, d := range []disks{x.d, x.pd} {
			if tagsDown {
				takeDown(t, d.tags)
			}
			if boxesDown {
				takeDown(t, d.boxes)
			}
		}
		want, added := api.OK, true
		if torn {
			p = turned(p, 33, 8)
		}
		switch {
		case torn:
			want, added = api.ErrMac, false
		case noAccount:
			want, added = api.ErrAuth, false
		case wasSeen:
			want, added = api.ErrSeen, false
		case noTagRoom:
			want, added = api.ErrSpace, false
		case tagsDown:
			want, added = api.ErrDown, false
		case noId:
			want = api.ErrForm
		case there:
			want = api.ErrThere
		case full:
			want = api.ErrFull
		case noBoxRoom:
			want = api.ErrSpace
		case boxesDown:
			want = api.ErrDown
		}
		h := x.h
		_, e := x.take(carries(p))
		is(t, e, want)
		counts := api.Counts{Bad: 1}
		switch want {
		case api.OK:
			counts = api.Counts{Home: 1}
		case api.ErrSeen:
			counts = api.Counts{Twice: 1}
		}
		tells(t, h, counts, 0)
		if added {
			tags = append(tags, tagOf(p))
		}
		if want == api.OK {
			boxes = append(boxes, recordP(1, which, "hi"))
		}
		for _, d := range []*disk.Disk{x.d.tags, x.d.boxes} {
			is(t, d.Crash(), api.OK)
		}
		set, e := seen.Open(x.d.tags, 4096)
		is(t, e, api.OK)
		var lie []string
		for _, s := range set.Tags() {
			lie = append(lie, recordT(s))
		}
		told(t, lie, tags)
		holds(t, x.d.boxes, boxes...)
	})
}

// TestTakeRefusesOthersInOrder: as a node does, whatever there is of boxes.
func TestTakeRefusesOthersInOrder(t *testing.T) {
	t.Parallel()
	for kind, h := range []api.Hop{on(3, 4096), drop(), loop(id(1))} {
		for mixture := range 128 {
			bit := func(k int) bool { return mixture>>k&1 > 0 }
			fullPool, late, wasSeen, noRoom, isDown, torn, boxesDown := bit(0), bit(1), bit(2), bit(3), bit(4), bit(5), bit(6)
			p, want := packet(1, h), api.OK
			x := newPair(t, 12, 12) // room for five records
			records := []string{recordT(id(1)), recordT(id(2)), recordT(id(3)), recordT(id(4))}
			if wasSeen {
				records[0] = tagOf(p)
			}
			if !noRoom {
				records = records[:1]
			}
			x.lays(records, nil)
			is(t, x.open(1, 1, 1), api.OK)
			if late {
				x.ticks(maxTick - 10)
			}
			if fullPool {
				x.comes(packet(2, on(1, 3)))
			} else {
				x.comes(packet(2, drop()))
			}
			for _, d := range []disks{x.d, x.pd} {
				if isDown {
					takeDown(t, d.tags)
				}
				if boxesDown {
					takeDown(t, d.boxes)
				}
			}
			switch {
			case torn:
				p, want = turned(p, 33, 8), api.ErrMac
			case kind == 0 && fullPool:
				want = api.ErrPool
			case kind == 0 && late:
				want = api.ErrRange
			case wasSeen:
				want = api.ErrSeen
			case noRoom:
				want = api.ErrSpace
			case isDown:
				want = api.ErrDown
			}
			h, plain := x.h, x.p
			_, e := x.take(carries(p))
			is(t, e, want)
			tells(t, h, plain.counts, len(plain.waits))
		}
	}
}

// TestOneTag: packets of one seed have one tag, whatever they tell: the first one is taken alone.
func TestOneTag(t *testing.T) {
	all := []api.Hop{on(3, 2), loop(id(1)), drop(), home(1, 0, id(1)), home(2, 0, id(2))}
	for i, first := range all {
		x := opened(t, 20, 20, 2, 2, 1, 2)
		x.comes(packet(5, first))
		n := 0
		for _, h := range all {
			x.bad(api.ErrSeen, packet(5, h))
			n++
		}
		x.bad(api.ErrAuth, packet(5, home(3, 0, id(1))))
		counts := []api.Counts{{On: 1}, {Loop: 1}, {Drop: 1}, {Home: 1}, {Home: 1}}[i]
		counts.Twice, counts.Bad = n, 1
		tells(t, x.h, counts, counts.On)
	}
}

// TestTwice: a packet home at once, behind its ack, behind a crash, behind one Rotate and behind two: then it may come again, if its id is not there.
func TestTwice(t *testing.T) {
	x := opened(t, 40, 40, 2, 4, 1)
	p, q := letter(1, 1, id(1), "one"), letter(2, 1, id(2), "two")
	x.comes(p, q)
	for range 3 {
		x.bad(api.ErrSeen, p, q)
	}
	x.acked(1, id(1))
	x.bad(api.ErrSeen, p, q)
	x.crash(nil, nil)
	is(t, x.open(2, 4, 1), api.OK)
	x.bad(api.ErrSeen, p, q)
	is(t, x.rotate(), api.OK)
	x.bad(api.ErrSeen, p, q)
	is(t, x.rotate(), api.OK)
	x.comes(p)
	x.bad(api.ErrThere, q)
	x.bad(api.ErrSeen, p, q)
	x.shows(1, api.Slot{Id: id(2), Text: "two"}, api.Slot{Id: id(1), Text: "one"})
	tells(t, x.h, api.Counts{Home: 1, Twice: 6, Bad: 1}, 0)
}

// TestFullBox: just as many entries as the quota, one more, and one behind an ack. Another user's box is not full.
func TestFullBox(t *testing.T) {
	for _, quota := range []int{1, 2, 4, 5, 9} {
		x := opened(t, 100, 100, 1, quota, 1, 2)
		for k := range quota {
			x.comes(letter(k, 1, id(k), fmt.Sprint(k)))
		}
		x.bad(api.ErrFull, letter(20, 1, id(20), "more"))
		x.bad(api.ErrThere, letter(21, 1, id(0), "there"))
		x.comes(letter(22, 2, id(0), "the other's"))
		x.acked(1, id(quota-1))
		x.bad(api.ErrSeen, letter(20, 1, id(20), "more"))
		x.comes(letter(23, 1, id(20), "once more"))
		x.bad(api.ErrFull, letter(24, 1, id(24), "and more"))
		tells(t, x.h, api.Counts{Home: quota + 2, Twice: 1, Bad: 3}, 0)
		if x.h.Len(1) != quota || x.h.Len(2) != 1 {
			t.Fatalf("there are %d and %d entries", x.h.Len(1), x.h.Len(2))
		}
		if quota == 1 {
			x.shows(1, api.Slot{Id: id(20), Text: "once more"})
		}
		x.shows(2, api.Slot{Id: id(0), Text: "the other's"})
	}
}

// TestGreatestBox: api.MaxBox entries, and one more.
func TestGreatestBox(t *testing.T) {
	x := newPair(t, 20, 1024)
	var records []string
	for k := range 255 {
		records = append(records, recordP(1, id(k), fmt.Sprint(k)))
	}
	x.lays(nil, records)
	is(t, x.open(1, 256, 1), api.OK)
	x.comes(letter(1, 1, id(255), "the last"))
	x.bad(api.ErrFull, letter(2, 1, id(256), "one more"))
	for k := 0; k < 256; k += 4 {
		want := x.p.of(1)[:4]
		told(t, []string{want[0].Id, want[3].Id}, []string{id(k), id(k + 3)})
		x.shows(1, want...)
		x.acked(1, ids(k, k+4)...)
	}
	x.shows(1)
	x.comes(letter(3, 1, id(0), "again"))
	x.shows(1, api.Slot{Id: id(0), Text: "again"})
}

// forged is a packet for the host 0 with a list that begins with these 24 bytes, right but for these.
func forged(k int, command, block string) string {
	seed := fmt.Sprintf("forged %25d", k)
	from, _ := curve.Public(seed)
	secret, _ := curve.Times(seed, point(0))
	keys, _ := head.Of(secret)
	list, _ := stream.Xor(keys.Flow, zeros(12), 0, command+zeros(176))
	body, _ := wide.Shut(keys.Body, block)
	return from + keyed.Tag(keys.Mac, list)[:16] + list + body
}

// plainBlock is chapter 6's block of a text, ahead of its being shut.
func plainBlock(text string) string {
	return zeros(32) + string([]byte{0, byte(len(text))}) + text + zeros(222-len(text))
}

// TestForgedCommands: those that are none are refused, in a packet that is right beside, and are not seen.
func TestForgedCommands(t *testing.T) {
	x := opened(t, 40, 40, 8, 8, 0, 1)
	for k, c := range []string{zeros(24), "\x05" + zeros(23), "\x01\x20" + zeros(22), "\x02\x40" + zeros(22), "\x02\x01\x10\x01" + zeros(20), "\x02\x01\x00\x00" + id(1) + "\x00\x00\x00\x01", "\x04\x01" + zeros(22), "\x03\x00\x00\x01" + zeros(20), strings.Repeat("\xff", 24)} {
		for range 2 {
			x.bad(api.ErrRoute, forged(k, c, plainBlock("hi")))
		}
	}
	tells(t, x.h, api.Counts{Bad: 18}, 0)
	x.comes(forged(20, "\x04"+zeros(23), plainBlock("hi")), forged(21, "\x03"+zeros(23), plainBlock("")), forged(22, "\x01"+zeros(23), zeros(256)))
	x.comes(forged(23, "\x02\x01\x00\x00"+id(1)+zeros(4), plainBlock("hi")))
	x.bad(api.ErrForm, forged(24, "\x02"+zeros(23), plainBlock("hi")))
	x.bad(api.ErrBody, forged(25, "\x02\x01\x00\x00"+id(2)+zeros(4), "\x01"+plainBlock("hi")[1:]), forged(26, "\x04"+zeros(23), "\x01"+plainBlock("hi")[1:]))
	x.shows(1, api.Slot{Id: id(1), Text: "hi"})
	tells(t, x.h, api.Counts{On: 1, Home: 1, Loop: 1, Drop: 1, Bad: 21}, 1)
}

// TestNotToBePeeled: packets that are no such thing, another's, and such as have a byte turned. They change counts alone.
func TestNotToBePeeled(t *testing.T) {
	x := opened(t, 20, 20, 2, 2, 1)
	by := rand.New(rand.NewSource(21))
	x.bad(api.ErrWeak, zeros(504), "\x01"+zeros(503))
	x.bad(api.ErrMac, drawnText(by, 504), strings.Repeat("\xff", 504))
	for _, h := range []api.Hop{on(3, 1), loop(id(1)), drop(), home(1, 0, id(1))} {
		x.bad(api.ErrMac, packets(making{1, 1, h, "another's"}))
		p := packet(1, h)
		for _, at := range []int{0, 31, 32, 47, 48, 71, 247} {
			x.bad(api.ErrMac, turned(p, at, 1))
		}
		if h.Kind != api.HOn {
			x.bad(api.ErrBody, turned(p, 248, 1), turned(p, 400, 1), turned(p, 503, 0x80))
		}
		x.bad(api.ErrMac, p[1:]+p[:1])
	}
	p := packet(2, on(0, 0))
	x.comes(p)
	x.bad(api.ErrMac, goes(p).Packet)
	x.bad(api.ErrSeen, turned(p, 31, 0x80)) // chapter 2 passes that bit over
	tells(t, x.h, api.Counts{On: 1, Twice: 1, Bad: 50}, 1)
	quiet(t, func() { taken(t, x.h, carries(zeros(504)), api.ErrWeak) }, x.d.tags, x.d.boxes)
}

// TestNoMessages: bytes of every length, of every kind, and such as chapter 11 refuses. They are not counted.
func TestNoMessages(t *testing.T) {
	x := opened(t, 20, 20, 2, 2, 0, 1, 63)
	x.comes(packet(1, on(1, 0)), letter(2, 1, id(2), "two"))
	x.shows(1, api.Slot{Id: id(2), Text: "two"})
	counts := x.h.Counts()
	right := []string{carries(packet(3, drop())), pull(1, 2), ack(1, 2), ack(1, 2, ids(0, 4)...), reply(1, 2)}
	quiet(t, func() {
		for _, s := range right {
			for n := range len(s) + 600 {
				if n != len(s) {
					taken(t, x.h, strings.Repeat(s, 40)[:n], api.ErrMail)
				}
			}
			for kind := range 256 {
				if byte(kind) != s[0] {
					taken(t, x.h, string([]byte{byte(kind)})+s[1:], api.ErrMail)
				}
			}
			taken(t, x.h, strings.Repeat(s, 4000), api.ErrMail)
			taken(t, x.h, s+"\x00", api.ErrMail)
			taken(t, x.h, "\x00"+s, api.ErrMail)
		}
		taken(t, x.h, packet(3, drop()), api.ErrMail)
		for _, s := range []string{
			signed(key(0), lead(2, 64, 2), ""), signed(key(0), lead(2, 255, 2), ""), signed(key(1), lead(2, 1, 0), ""), signed(key(1), lead(2, 1, 1<<31), ""), signed(key(1), lead(2, 1, 1<<32-1), ""),
			signed(key(0), lead(4, 64, 2), zeros(64)), signed(key(1), lead(4, 1, 0), zeros(64)), signed(key(1), lead(4, 1, 1<<31), zeros(64)),
			signed(key(1), lead(4, 1, 2), zeros(16)+id(2)+zeros(32)), signed(key(1), lead(4, 1, 2), id(2)+zeros(32)+id(3)), signed(key(1), lead(4, 1, 2), id(2)+zeros(47)+"\x01"),
		} {
			taken(t, x.h, s, api.ErrMail)
		}
	}, x.d.tags, x.d.boxes)
	tells(t, x.h, counts, 1)
	x.looks()
	for _, s := range right[:4] {
		x.take(s)
	}
	pulls(t, x.h, 1, 3, api.Slot{Id: id(2), Text: "two"}) // none of them was admitted
}

// TestReplies are no messages for a host, whatever they tell.
func TestReplies(t *testing.T) {
	x := opened(t, 20, 20, 2, 2, 1)
	x.comes(letter(2, 1, id(2), "two"))
	own, e := x.take(pull(1, 1))
	is(t, e, api.OK)
	x.refuses(api.ErrMail, own, reply(1, 2), reply(1, greatest, api.Slot{Id: id(2), Text: "two"}), reply(5, 1), reply(1, 2, api.Slot{Id: id(1)}, api.Slot{Id: id(1)}))
	x.refuses(api.ErrMail, lead(3, 64, 1)+zeros(956), lead(3, 1, 0)+zeros(956), reply(1, 2)[:6]+zeros(239)+reply(1, 2, api.Slot{Id: id(1)})[6:723])
	tells(t, x.h, api.Counts{Home: 1}, 0)
	x.shows(1, api.Slot{Id: id(2), Text: "two"})
}

// Promise 21.2: pulls and acks.

// full is a pair whose user 1 has so many entries, others one.
func full(t *testing.T, many int) (*pair, []api.Slot) {
	t.Helper()
	x := newPair(t, 40, 200)
	records := []string{recordP(0, id(0), "of 0"), recordP(2, id(1), "of 2")}
	var l []api.Slot
	for k := range many {
		l = append(l, api.Slot{Id: id(k), Text: strings.Repeat(fmt.Sprint(k), k*30)[:k*30]})
		records = append(records, recordP(1, l[k].Id, l[k].Text))
	}
	x.lays(nil, records)
	is(t, x.open(4, 8, 0, 1, 2, 3), api.OK)
	return x, l
}

// TestPulls of boxes of no entry, of one, of api.Slots and of one more, and of a full one: again and again the same.
func TestPulls(t *testing.T) {
	for many := range 9 {
		x, l := full(t, many)
		for range 3 {
			x.shows(1, l[:min(many, 4)]...)
			x.shows(0, api.Slot{Id: id(0), Text: "of 0"})
			x.shows(2, api.Slot{Id: id(1), Text: "of 2"})
			x.shows(3)
		}
		if many == 8 {
			x.bad(api.ErrFull, letter(1, 1, id(9), ""))
		}
		tells(t, x.h, api.Counts{Bad: many / 8}, 0)
	}
}

// TestPullsOfEachUser, with each Seq that may be.
func TestPullsOfEachUser(t *testing.T) {
	x := opened(t, 20, 20, 2, 2, users(0, 64)...)
	for user := range 64 {
		for _, seq := range []int{1, 2, 255, 256, 65535, 65536, 1 << 24, 1<<24 + 1 + user, greatest - 1, greatest} {
			got, e := x.take(pull(user, seq))
			is(t, e, api.OK)
			if got[:6] != lead(3, user, seq) || got[6:] != zeros(956) {
				t.Fatalf("the reply is %q", got)
			}
		}
		x.refuses(api.ErrSeen, pull(user, greatest), ack(user, greatest), pull(user, 1))
	}
}

// TestAcks of no id, of one, of api.Slots ids, of ids that are not there, of the same id twice.
func TestAcks(t *testing.T) {
	for _, gone := range [][]int{{}, {0}, {5}, {0, 1, 2, 3}, {5, 3, 1}, {2, 2}, {2, 2, 2, 2}, {4, 0, 4, 0}, {9}, {9, 9, 8, 7}, {9, 3}, {3, 9, 3, 0}, {5, 4, 3, 2}} {
		x, l := full(t, 6)
		var named []string
		var stay []api.Slot
		for _, k := range gone {
			named = append(named, id(k))
		}
		for k, s := range l {
			if !slices.Contains(gone, k) {
				stay = append(stay, s)
			}
		}
		x.acked(1, named...)
		if x.h.Len(1) != len(stay) || x.h.Len(0) != 1 || x.h.Len(2) != 1 {
			t.Fatalf("behind an ack of %v there are %d entries", gone, x.h.Len(1))
		}
		for range 2 {
			x.shows(1, stay[:min(len(stay), 4)]...)
		}
		x.acked(1, named...)
		x.shows(1, stay[:min(len(stay), 4)]...)
		x.shows(0, api.Slot{Id: id(0), Text: "of 0"})
		x.shows(2, api.Slot{Id: id(1), Text: "of 2"})
		tells(t, x.h, api.Counts{}, 0)
	}
}

// TestAcksAreTheUsersOwn: another's entries of the same ids stay.
func TestAcksAreTheUsersOwn(t *testing.T) {
	x, l := full(t, 3)
	x.acked(0, id(0), id(1), id(2))
	x.acked(3, id(0), id(1), id(2))
	x.shows(1, l...)
	x.shows(0)
	x.shows(2, api.Slot{Id: id(1), Text: "of 2"})
	x.acked(2, id(2))
	x.acked(1, id(1))
	x.shows(1, l[0], l[2])
	x.shows(2, api.Slot{Id: id(1), Text: "of 2"})
}

// TestAckedComesAgain: the id of an entry that is there no more may be used by another packet, which stands behind all others.
func TestAckedComesAgain(t *testing.T) {
	x, l := full(t, 3)
	x.acked(1, id(0))
	x.comes(letter(1, 1, id(0), "again"))
	x.shows(1, l[1], l[2], api.Slot{Id: id(0), Text: "again"})
	x.acked(1, id(0))
	x.shows(1, l[1], l[2])
}

// TestGate: what is refused changes nothing, before and behind what is admitted.
func TestGate(t *testing.T) {
	x, l := full(t, 3)
	var refused []string
	for _, s := range []string{pull(1, 7), ack(1, 7), ack(1, 7, id(0), id(1)), pull(2, 7), ack(2, 7, id(1))} {
		refused = append(refused, turned(s, 6, 1), turned(s, 37, 0x80), s[:6]+zeros(32)+s[38:], turned(s, 5, 1), turned(s, 1, 3), s[:6]+drawnText(rand.New(rand.NewSource(1)), 32)+s[38:])
		if len(s) > 38 {
			refused = append(refused, s[:38]+id(2)+s[54:], s[:38]+strings.Join(ids(2, 6), ""))
		}
	}
	refused = append(refused, pullBy(key(2), 1, 7), pullBy(zeros(32), 1, 7), pullBy("", 1, 7), ackBy(key(2), 1, 7, id(0)), pull(4, 7), ack(4, 7, id(0)), pull(63, 1))
	refused = append(refused, signed(key(1), lead(2, 1, 7), "more")[:38], lead(2, 1, 7)+tag(key(1), lead(4, 1, 7), zeros(64)), lead(2, 1, 7)+tag(key(1), lead(2, 1, 8), ""))
	for round := range 3 {
		quiet(t, func() {
			for _, s := range refused {
				taken(t, x.h, s, api.ErrAuth)
			}
		}, x.d.tags, x.d.boxes)
		x.refuses(api.ErrAuth, refused...)
		tells(t, x.h, api.Counts{}, 0)
		seq := 2 + 2*round
		x.takes(ack(1, seq, id(9)))
		x.refuses(api.ErrAuth, refused...)
		x.refuses(api.ErrSeen, pull(1, seq), pull(1, seq-1), ack(1, seq, id(0)), ack(1, 1, id(0)), ack(1, seq, id(9)))
		pulls(t, x.h, 1, seq+1, l...)
		x.p.last[1] = seq + 1
	}
	x.shows(1, l...)
	x.shows(2, api.Slot{Id: id(1), Text: "of 2"})
}

// TestSeqs: each must be above all that were admitted of the user, of pulls and acks together, and of no other user's.
func TestSeqs(t *testing.T) {
	x, l := full(t, 2)
	x.takes(ack(1, 5))
	x.refuses(api.ErrSeen, pull(1, 5), pull(1, 4), ack(1, 5, id(0)), ack(1, 3, id(0)))
	x.shows(0, api.Slot{Id: id(0), Text: "of 0"})
	x.shows(1, l...)
	x.refuses(api.ErrSeen, ack(1, 6, id(0)), pull(1, 6))
	x.takes(ack(2, 6, id(0)), ack(2, 8), ack(2, 1000, id(1)))
	x.refuses(api.ErrSeen, ack(2, 1000, id(1)), pull(2, 999))
	x.takes(ack(1, 7, id(0)))
	x.shows(1, l[1])
	x.refuses(api.ErrAuth, pullBy(key(2), 1, 9))
	x.takes(ack(1, 9, id(1)), ack(1, greatest))
	x.refuses(api.ErrSeen, pull(1, greatest), ack(1, greatest))
	if x.h.Len(1) != 0 {
		t.Fatal("there is something")
	}
}

// headOf is the first sector of a half of that generation.
func headOf(generation int) string {
	front := "LOG\x00" + string(binary.BigEndian.AppendUint32(nil, uint32(generation)))
	sum := sha256.Sum256([]byte(front))
	return front + string(sum[:16]) + zeros(40)
}

// TestAckThatTheBoxesRefuse: its number was admitted all the same, and nothing is there no more. Where a log's generation is the last it is not compacted.
func TestAckThatTheBoxesRefuse(t *testing.T) {
	x := newPair(t, 20, 12) // room for five records
	for _, d := range []disks{x.d, x.pd} {
		is(t, d.boxes.Write(6, headOf(greatest)), api.OK)
		is(t, d.boxes.Sync(), api.OK)
	}
	var records []string
	var l []api.Slot
	for k := range 4 {
		records = append(records, recordP(1, id(k), fmt.Sprint(k)))
		l = append(l, api.Slot{Id: id(k), Text: fmt.Sprint(k)})
	}
	x.lays(nil, records)
	is(t, x.open(1, 8, 1, 2), api.OK)
	x.refuses(api.ErrLong, ack(1, 1, id(0), id(1)))
	x.refuses(api.ErrSeen, ack(1, 1, id(0)), pull(1, 1))
	x.shows(1, l...)
	x.takes(ack(1, 5, id(3), id(9), id(3)))
	x.refuses(api.ErrLong, ack(1, 7, id(0)))
	x.refuses(api.ErrSeen, ack(1, 7), pull(1, 6))
	x.bad(api.ErrLong, letter(1, 2, id(1), "no room"))
	x.bad(api.ErrSeen, letter(1, 2, id(1), "no room"))
	x.takes(ack(1, 8, id(9)), ack(1, 9))
	x.shows(1, l[:3]...)
	x.shows(2)
	tells(t, x.h, api.Counts{Twice: 1, Bad: 1}, 0)
}

// TestTakeOfDisksThatRefuse: a fuse at each write and sync, of each of the disks, of each call that writes.
func TestTakeOfDisksThatRefuse(t *testing.T) {
	p := letter(1, 1, id(9), strings.Repeat("x", 60))
	short := []string{recordT(id(1)), recordE(1), recordE(2), recordE(3), recordE(4)} // compacted, it is one record
	full := []string{recordP(2, id(1), ""), recordA(2, id(1)), recordP(1, id(2), ""), recordP(2, id(2), ""), recordA(2, id(2))}
	for name, x := range map[string]struct {
		text        string
		tags, boxes []string
		many        [2]int // writes and syncs on each disk
	}{
		"home":               {carries(p), nil, nil, [2]int{2, 3}},
		"home, both compact": {carries(p), short, full, [2]int{6, 6}},
		"on":                 {carries(packet(1, on(1, 1))), nil, nil, [2]int{2, 0}},
		"loop, compact":      {carries(packet(1, loop(id(1)))), short, full, [2]int{6, 0}},
		"drop":               {carries(packet(1, drop())), nil, full, [2]int{2, 0}},
		"ack":                {ack(1, 1, id(1), id(2)), nil, []string{recordP(1, id(1), ""), recordP(1, id(2), "")}, [2]int{0, 3}},
		"ack, compact":       {ack(1, 1, id(2)), short, full, [2]int{0, 3}},
		"ack of none":        {ack(1, 1, id(8)), nil, full, [2]int{0, 0}},
		"pull":               {pull(1, 1), short, full, [2]int{0, 0}},
		"no message":         {"", short, full, [2]int{0, 0}},
	} {
		for which := range 2 {
			for n := 1; ; n++ {
				y := newPair(t, 12, 12)
				y.lays(x.tags, x.boxes)
				is(t, y.open(2, 4, 1, 2), api.OK)
				y.fuse([]int{n, 0}[which], []int{0, n}[which])
				h := y.h
				_, e := y.take(x.text)
				if e != api.ErrDown {
					if n-1 != x.many[which] {
						t.Errorf("%s: %d writes and syncs on the disk %d; want %d", name, n-1, which, x.many[which])
					}
					break
				}
				counts := api.Counts{}
				if x.text[0] == 1 {
					counts.Bad = 1
				}
				tells(t, h, counts, 0)
				if n > 40 {
					t.Fatal(name, "does not end")
				}
			}
		}
	}
}

// Promise 21.3.

// TestTick: packets that go on, by their times, of the same one as they were taken; what is home is not among them.
func TestTick(t *testing.T) {
	for _, from := range []int{0, 1, 63, 4095, 1<<39 - 1, maxTick - 80} {
		x := opened(t, 60, 60, 8, 8, 1)
		x.ticks(from)
		l := []string{packet(1, on(1, 5)), packet(2, on(2, 0)), packet(3, on(3, 70)), packet(4, on(4, 5)), packet(5, on(5, 1))}
		x.comes(l[0], letter(6, 1, id(6), ""), l[1], l[2], packet(7, loop(id(7))), l[3], packet(8, drop()))
		x.ticks(from)
		x.ticks(from+1, l[1])
		x.comes(l[4])
		x.ticks(from + 2)
		x.ticks(from+3, l[4])
		x.ticks(from + 5)
		x.ticks(from+70, l[0], l[3])
		x.ticks(from+71, l[2])
		x.ticks(maxTick)
		tells(t, x.h, api.Counts{On: 5, Home: 1, Loop: 1, Drop: 1}, 0)
	}
}

// TestTickRefuses: a time that is over, or none; nothing goes on then, and the time stays.
func TestTickRefuses(t *testing.T) {
	for _, now := range []int{0, 1, 64, 1 << 20, maxTick - 1} {
		x := opened(t, 20, 20, 4, 4, 1)
		x.ticks(now)
		p := packet(1, on(1, 0))
		x.comes(p, letter(2, 1, id(2), "two"))
		for _, to := range []int{now - 1, now - 64, -1, -maxTick, math.MinInt, maxTick + 1, maxTick + 2, 1 << 41, math.MaxInt} {
			want := api.ErrLate
			if to > now {
				want = api.ErrRange
			}
			l, e := x.tick(to)
			is(t, e, want)
			told(t, l, nil)
		}
		x.ticks(now)
		x.ticks(now+1, p)
		x.ticks(now + 1)
		x.shows(1, api.Slot{Id: id(2), Text: "two"})
	}
}

// TestPool: just as many packets as the pool has, one more, and one again behind a Tick that lets one go. The one that was refused was not seen.
func TestPool(t *testing.T) {
	for _, pool := range []int{1, 2, 5} {
		x := opened(t, 60, 60, pool, 8, 1)
		var l []string
		for k := range pool {
			l = append(l, packet(k, on(k, 10+k)))
			x.comes(l[k])
		}
		more := packet(90, on(9, 0))
		x.bad(api.ErrPool, more, l[0])
		x.comes(packet(92, drop()), packet(93, loop(id(3))), letter(94, 1, id(4), "four"))
		x.bad(api.ErrPool, more)
		x.ticks(10)
		x.bad(api.ErrPool, more)
		x.ticks(11, l[0])
		x.bad(api.ErrSeen, l[0])
		x.comes(more)
		tells(t, x.h, api.Counts{On: pool + 1, Home: 1, Loop: 1, Drop: 1, Twice: 1, Bad: 4}, pool)
	}
}

// TestEndOfTime: a packet whose time, with one and its delay, is api.MaxTick, and one above it, which was not seen.
func TestEndOfTime(t *testing.T) {
	for _, delay := range []int{0, 1, 255, 4096} {
		p, q := packet(1, on(3, delay)), packet(2, on(4, delay))
		x := opened(t, 20, 20, 4, 4, 1)
		x.ticks(maxTick - delay - 1)
		x.comes(p)
		x.ticks(maxTick, p)
		x.bad(api.ErrRange, q, q, p)
		x.comes(packet(5, drop()), packets(making{0, 6, home(1, delay, id(6)), ""}))
		is(t, x.open(4, 4, 1), api.OK)
		x.bad(api.ErrSeen, p)
		x.comes(q)
		x.ticks(delay+1, q)
	}
}

// TestBack: the ids of loops that came since it was asked last, in order, the same ones too; none of what is home.
func TestBack(t *testing.T) {
	x := opened(t, 60, 60, 4, 4, 1)
	told(t, x.back(), nil)
	x.comes(packet(1, loop(id(1))), letter(2, 1, id(2), ""))
	told(t, x.back(), []string{id(1)})
	told(t, x.back(), nil)
	x.comes(packet(3, loop(id(9))), packet(4, drop()), packet(5, loop(id(2))), packet(6, on(1, 1)), packet(7, loop(id(9))), letter(8, 1, id(8), ""), packet(9, loop(zeros(16))))
	x.bad(api.ErrSeen, packet(3, loop(id(9))))
	x.bad(api.ErrBody, turned(packet(10, loop(id(10))), 300, 1))
	x.shows(1, api.Slot{Id: id(2)}, api.Slot{Id: id(8)})
	x.acked(1, id(2))
	x.tick(100)
	is(t, x.rotate(), api.OK)
	told(t, x.back(), []string{id(9), id(2), id(9), zeros(16)})
	told(t, x.back(), nil)
	x.comes(packet(10, loop(id(10))))
	is(t, x.open(4, 4, 1), api.OK)
	told(t, x.back(), nil)
}

// TestCounts: of all kinds, of what came twice, and of what was refused, each apart.
func TestCounts(t *testing.T) {
	x := opened(t, 60, 60, 2, 2, 1)
	for k, want := range []api.Counts{{On: 1, Home: 1, Loop: 1, Drop: 1, Twice: 5, Bad: 3}, {On: 2, Home: 2, Loop: 2, Drop: 2, Twice: 9, Bad: 7}, {On: 2, Home: 2, Loop: 3, Drop: 3, Twice: 13, Bad: 13}} {
		l := []string{packet(10*k, on(1, 9)), letter(10*k+1, 1, id(k), ""), packet(10*k+2, loop(id(k))), packet(10*k+3, drop()), letter(10*k+4, 2, id(k), ""), letter(10*k+5, 1, zeros(16), "")}
		for range 2 {
			for _, p := range l {
				x.take(carries(p))
			}
			x.shows(1, x.p.of(1)...)
			x.take("no message")
			x.take(pull(2, 1))
		}
		tells(t, x.h, want, want.On)
	}
}

// TestRotate: chapter 17's, and nothing else: what waits, came, was counted, is in a box, or was admitted, stays.
func TestRotate(t *testing.T) {
	x := opened(t, 60, 60, 4, 4, 1)
	p, q := packet(1, on(1, 1)), packet(2, on(2, 9))
	x.comes(p, q, packet(3, loop(id(3))), letter(4, 1, id(4), "four"))
	x.shows(1, api.Slot{Id: id(4), Text: "four"})
	x.ticks(1)
	for k := range 5 {
		is(t, x.rotate(), api.OK)
		tells(t, x.h, api.Counts{On: 2, Home: 1, Loop: 1}, 2)
		s, e := seen.Open(x.d.tags, 4096)
		is(t, e, api.OK)
		if s.Epoch() != k+1 {
			t.Fatalf("the epoch %d", s.Epoch())
		}
		x.refuses(api.ErrSeen, pull(1, 1))
	}
	x.ticks(2, p)
	x.ticks(10, q)
	told(t, x.back(), []string{id(3)})
	x.shows(1, api.Slot{Id: id(4), Text: "four"})
	x.comes(p)
	x.bad(api.ErrThere, letter(4, 1, id(4), "four"))
}

func TestRotateRefuses(t *testing.T) {
	x := newPair(t, 12, 12)
	p := letter(1, 1, id(1), "")
	x.lays([]string{recordE(1<<31 - 2), tagOf(p)}, nil)
	is(t, x.open(4, 4, 1), api.OK)
	is(t, x.rotate(), api.OK)
	x.bad(api.ErrSeen, p)
	is(t, x.rotate(), api.ErrRange)
	x.bad(api.ErrSeen, p)
	quiet(t, func() { is(t, x.h.Rotate(), api.ErrRange) }, x.d.tags, x.d.boxes)
	x = newPair(t, 12, 12)
	x.lays([]string{recordT(id(1)), recordT(id(2)), recordT(id(3)), recordT(id(4)), recordT(id(5))}, nil)
	is(t, x.open(4, 4, 1), api.OK)
	is(t, x.rotate(), api.ErrSpace)
	x.bad(api.ErrSpace, p)
	for n := 1; n < 4; n++ {
		x := opened(t, 12, 12, 4, 4, 1)
		x.fuse(n, 1)
		is(t, x.rotate(), []api.Errno{0, api.ErrDown, api.ErrDown, api.OK}[n])
	}
}

// TestLen of users with and without an account, and of such as there are not.
func TestLen(t *testing.T) {
	x := newPair(t, 20, 60)
	x.lays(nil, []string{recordP(0, id(1), ""), recordP(63, id(1), ""), recordP(63, id(2), ""), recordP(7, id(1), ""), recordA(7, id(1))})
	is(t, x.open(1, 1, 0, 7), api.OK)
	for user, want := range map[int]int{0: 1, 63: 2, 7: 0, 1: 0, -1: 0, 64: 0, 127: 0, 256: 0, 320: 0, 1 << 32: 0, math.MaxInt: 0, math.MinInt: 0} {
		if got := x.h.Len(user); got != want {
			t.Errorf("Len(%d): %d; want %d", user, got, want)
		}
	}
}
