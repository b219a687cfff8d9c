package host_test

import (
	"fmt"
	"math"
	"math/rand"
	"slices"
	"strings"
	"sync"
	"testing"
	"unsafe"

	"dovecote/api"
	"dovecote/disk"
	"dovecote/host"
	"dovecote/mail"
)

// Mixtures.

// mixed is one of few packets of each kind, on and home, loop and drop: of those home some have the same id, some no id, some a user without an account.
func mixed(k int) string {
	tells := []api.Hop{on(1, 0), home(1, 0, id(0)), on(2, 1), loop(id(2)), home(2, 3, id(1)), on(3, 5), home(1, 1, id(1)), drop(), on(4, 4096), loop(id(2)), home(3, 0, id(2)), home(63, 9, id(1)), on(6, 70), home(2, 0, zeros(16)), drop(), home(1, 4096, id(2))}
	return packets(making{0, 300 + k, tells[k%len(tells)], strings.Repeat("t", []int{0, 28, 29, 222, 3, 7, 90}[k%7])})
}

// drawnPacket is mostly one of few, so that packets come twice, now and then none, another's, or a turned one.
func drawnPacket(by *rand.Rand) string {
	switch k := by.Intn(40); {
	case k == 0:
		return drawnText(by, 504)
	case k == 1:
		return zeros(504)
	case k == 2:
		return packets(making{1, 1, []api.Hop{on(1, 0), loop(id(1)), home(1, 0, id(1))}[by.Intn(3)], ""})
	case k == 3:
		return turned(mixed(by.Intn(16)), 32+by.Intn(216), byte(1+by.Intn(255)))
	case k == 4:
		return turned(mixed([]int{1, 3, 4, 7}[by.Intn(4)]), 248+by.Intn(256), byte(1+by.Intn(255)))
	case k == 5:
		return forged(by.Intn(3), "\x05"+zeros(23), plainBlock("hi"))
	case k < 16:
		return mixed(by.Intn(112))
	}
	return mixed(by.Intn(16))
}

// drawnSeq is mostly near the last one that was admitted.
func drawnSeq(by *rand.Rand, last int) int {
	switch k := by.Intn(40); {
	case k == 0:
		return 0
	case k == 1:
		return greatest + by.Intn(2)
	case k < 6:
		return max(last-by.Intn(2), 1)
	}
	return last + 1 + by.Intn(3)
}

// drawnAsk is a pull or an ack, mostly signed by the right key.
func drawnAsk(by *rand.Rand, last map[int]int) string {
	user := []int{1, 1, 1, 2, 2, 3, 63}[by.Intn(7)]
	k, seq := key(user), drawnSeq(by, last[user])
	if by.Intn(12) == 0 {
		k = key(by.Intn(4))
	}
	s := pullBy(k, user, seq)
	if by.Intn(5) < 3 {
		var l []string
		for range by.Intn(5) {
			l = append(l, id(by.Intn(4)))
		}
		s = ackBy(k, user, seq, l...)
	}
	if by.Intn(16) == 0 {
		return turned(s, by.Intn(len(s)), 1<<by.Intn(8))
	}
	return s
}

// drawnNone is a text that is no message, or a reply.
func drawnNone(by *rand.Rand) string {
	switch by.Intn(6) {
	case 0:
		return drawnText(by, []int{0, 1, 37, 39, 103, 504, 506, 961, 963}[by.Intn(9)])
	case 1:
		return string([]byte{[]byte{0, 3, 5, 255}[by.Intn(4)]}) + drawnText(by, []int{37, 101, 504, 961}[by.Intn(4)])
	case 2:
		return reply(1, 1+by.Intn(9), api.Slot{Id: id(1), Text: "hi"})
	case 3:
		return mixed(by.Intn(16))
	case 4:
		return signed(key(1), lead(4, 1, greatest), zeros(16)+id(1)+zeros(32))
	}
	return signed(key(1), lead(2, 64+by.Intn(192), 5), "")
}

// drawnTime is mostly a little later, now and then one that is over, or none.
func drawnTime(by *rand.Rand, now int) int {
	switch k := by.Intn(40); {
	case k == 0:
		return maxTick + 1 + by.Intn(3)
	case k < 4:
		return now - 1 - by.Intn(3)
	case k == 4:
		return min(now+by.Intn(5000), maxTick)
	}
	return min(now+[]int{0, 1, 1, 1, 2, 3, 6, 64}[by.Intn(8)], maxTick)
}

// plays one drawn call.
func (x *pair) plays(by *rand.Rand) (call string, e api.Errno) {
	x.t.Helper()
	if x.down && by.Intn(4) > 0 {
		x.crashes(by)
		return "crash", api.OK
	}
	if x.down || x.h == nil {
		return x.opens(by)
	}
	switch k := by.Intn(100); {
	case k < 40:
		_, e := x.take(carries(drawnPacket(by)))
		return "packet", e
	case k < 66:
		s := drawnAsk(by, x.p.last)
		_, e := x.take(s)
		if len(s) == 38 {
			return "pull", e
		}
		return "ack", e
	case k < 69:
		_, e := x.take(drawnNone(by))
		return "none", e
	case k < 80:
		_, e := x.tick(drawnTime(by, x.p.now))
		return "tick", e
	case k < 82:
		x.back()
		return "back", api.OK
	case k < 87:
		return "rotate", x.rotate()
	case k < 92:
		x.fuse([]int{0, by.Intn(20)}[by.Intn(2)], []int{0, by.Intn(20), by.Intn(5)}[by.Intn(3)])
		return "fuse", api.OK
	case k < 96:
		x.crashes(by)
		return "crash", api.OK
	}
	return x.opens(by)
}

func (x *pair) crashes(by *rand.Rand) {
	x.t.Helper()
	x.crash(drawnPicks(by, x.d.tags.Waits()), drawnPicks(by, x.d.boxes.Waits()))
}

// opens a host, which is at a time near the last one now and then.
func (x *pair) opens(by *rand.Rand) (call string, e api.Errno) {
	x.t.Helper()
	g := given{private: private(0), l: accounts(1, 2, 63), pool: []int{1, 2, 3, 8}[by.Intn(4)], quota: []int{1, 2, 3, 3, 8}[by.Intn(5)]}
	switch by.Intn(26) {
	case 0:
		g.private = wrongKeys()[by.Intn(len(wrongKeys()))]
	case 1:
		g.pool = wrongPools()[by.Intn(len(wrongPools()))]
	case 2:
		g.quota = wrongQuotas()[by.Intn(len(wrongQuotas()))]
	case 3, 5, 6:
		g.l = wrongAccounts()[by.Intn(len(wrongAccounts()))].l
	case 4:
		g.l = accounts(3, 2, 1)
	}
	e = x.openBy(g.private, g.l, g.pool, g.quota)
	if e == api.OK && by.Intn(4) == 0 {
		x.tick([]int{maxTick, maxTick - 1, maxTick - 2, maxTick - 71, maxTick - 4100}[by.Intn(5)])
	}
	return "open", e
}

// TestAsPlain: each answer, each reply, Len of each user, the counts, how many wait, the loops and each sector are those of a plain host.
func TestAsPlain(t *testing.T) {
	t.Parallel()
	var lock sync.Mutex
	said := map[string]map[api.Errno]int{}
	for _, call := range []string{"packet", "pull", "ack", "none", "tick", "back", "rotate", "open", "fuse", "crash"} {
		said[call] = map[api.Errno]int{}
	}
	several(t, 240, func(t *testing.T, k int) {
		by := rand.New(rand.NewSource(int64(k)))
		x := newPair(t, []int{12, 16, 20, 26, 33, 40, 64}[k%7], []int{12, 16, 20, 26, 40}[k%5])
		if k%8 == 0 {
			x = newPair(t, []int{4, 5, 6, 8}[k/8%4], []int{4, 5, 6, 8, 9}[k/8%5])
		}
		x.backs = k%2 == 0
		for range 100 {
			call, e := x.plays(by)
			lock.Lock()
			said[call][e]++
			lock.Unlock()
		}
	})
	for call, want := range map[string][]api.Errno{
		"packet": {api.OK, api.ErrWeak, api.ErrMac, api.ErrBody, api.ErrRoute, api.ErrPool, api.ErrRange, api.ErrSeen, api.ErrSpace, api.ErrDown, api.ErrAuth, api.ErrForm, api.ErrThere, api.ErrFull},
		"pull":   {api.OK, api.ErrMail, api.ErrAuth, api.ErrSeen},
		"ack":    {api.OK, api.ErrMail, api.ErrAuth, api.ErrSeen, api.ErrDown},
		"none":   {api.ErrMail},
		"tick":   {api.OK, api.ErrLate, api.ErrRange},
		"rotate": {api.OK, api.ErrSpace, api.ErrDown},
		"open":   {api.OK, api.ErrForm, api.ErrRange, api.ErrThere, api.ErrLong, api.ErrDown},
	} {
		for _, e := range want {
			if said[call][e] < 10 {
				t.Errorf("%s told the error %d %d times: too few", call, e, said[call][e])
			}
		}
		if len(said[call]) != len(want) {
			t.Errorf("%s told %v", call, said[call])
		}
	}
}

// TestShortPlays: all plays of four calls of these, of which some need a host that there is, with a quota of 1 and of 2.
func TestShortPlays(t *testing.T) {
	t.Parallel()
	asks := func(call func(x *pair)) func(x *pair) {
		return func(x *pair) {
			if x.h != nil {
				call(x)
			}
		}
	}
	calls := []func(x *pair){
		asks(func(x *pair) { x.take(carries(letter(1, 1, id(1), "one"))) }),
		asks(func(x *pair) { x.take(carries(letter(2, 1, id(2), strings.Repeat("two", 20)))) }),
		asks(func(x *pair) { x.take(carries(letter(1, 2, id(1), "of one's tag"))) }),
		asks(func(x *pair) { x.take(carries(packet(3, on(1, 0)))) }),
		asks(func(x *pair) { x.take(pull(1, x.p.last[1]+1)) }),
		asks(func(x *pair) { x.take(ack(1, 1+x.p.now, id(1))) }),
		asks(func(x *pair) { x.tick(x.p.now + 1) }),
		asks(func(x *pair) { x.rotate() }),
		func(x *pair) {
			if !x.down {
				x.fuse(4, 3)
			}
		},
		func(x *pair) { x.crash([]int{64, 23, 64}, []int{64, 38}); x.open(2, 2, 1, 2) },
	}
	many := 1
	for range 4 {
		many *= len(calls)
	}
	several(t, many, func(t *testing.T, play int) {
		x := opened(t, 8, 8, 1, 1+play%2, 1, 2)
		x.backs = true
		for n, k := play, 0; k < 4; n, k = n/len(calls), k+1 {
			calls[n%len(calls)](x)
		}
	})
}

// Rules that hold everywhere.

// refusedCalls asks for what is refused, whatever the host has.
func (x *pair) refusedCalls(by *rand.Rand) {
	x.t.Helper()
	bad := []string{drawnText(by, 504), turned(mixed(by.Intn(16)), 40, 1), turned(mixed(1), 300, 1), letter(400, 40, id(1), "no account"), forged(9, "\x09"+zeros(23), plainBlock("hi"))}
	for _, p := range bad {
		if r, e := x.h.Take(carries(p)); e == api.OK || r != "" {
			x.t.Fatal("it was taken")
		}
	}
	x.p.counts.Bad += len(bad)
	l := []string{"", "x", packet(1, drop()), pull(40, 1), pullBy(key(9), 1, greatest), ackBy(key(9), 2, greatest, ids(0, 4)...), ack(50, 1, id(1)), reply(1, 1), lead(2, 1, greatest) + zeros(32)}
	for _, user := range []int{1, 2, 63} {
		if last := x.p.last[user]; last > 0 {
			l = append(l, pull(user, last), ack(user, last, ids(0, 4)...), ack(user, 1, ids(0, 4)...))
		}
	}
	for _, s := range l {
		if r, e := x.h.Take(s); e == api.OK || r != "" {
			x.t.Fatal("it was taken")
		}
	}
	for to, want := range map[int]api.Errno{x.p.now - 1: api.ErrLate, -1: api.ErrLate, maxTick + 1: api.ErrRange} {
		l, e := x.h.Tick(to)
		is(x.t, e, want)
		told(x.t, l, nil)
	}
	given{private(0)[1:], x.d, nil, 1, 1}.new(x.t, api.ErrForm)
	given{private(0), x.d, nil, 0, 1}.new(x.t, api.ErrRange)
	given{private(0), disks{nil, x.d.boxes}, nil, 1, 1}.new(x.t, api.ErrNone)
	x.looks()
}

// TestRefusedCallsChangeNothing plays the same calls with two hosts, one of them with refused ones between.
func TestRefusedCallsChangeNothing(t *testing.T) {
	t.Parallel()
	several(t, 16, func(t *testing.T, k int) {
		by := rand.New(rand.NewSource(int64(k)))
		tags, boxes := 10+by.Intn(20), 10+by.Intn(20)
		calm, x := newPair(t, tags, boxes), newPair(t, tags, boxes)
		for range 50 {
			if x.h != nil {
				x.refusedCalls(by)
			}
			play := by.Int63()
			call, e := calm.plays(rand.New(rand.NewSource(play)))
			again, ae := x.plays(rand.New(rand.NewSource(play)))
			if call != again || e != ae {
				t.Fatalf("%s told the error %d, with refused calls between %s the error %d", call, e, again, ae)
			}
			if x.h != nil {
				want, got := calm.h.Counts(), x.h.Counts()
				got.Bad, want.Bad = 0, 0
				told(t, []api.Counts{got}, []api.Counts{want})
				told(t, x.p.waits, calm.p.waits)
				told(t, x.p.loops, calm.p.loops)
				told(t, x.p.plainEntries, calm.p.plainEntries)
			}
			if !x.down {
				got, want := images(t, x.d), images(t, calm.d)
				told(t, got[0], want[0])
				told(t, got[1], want[1])
			}
		}
	})
}

// TestAsksChangeNothing: neither the host nor the disks.
func TestAsksChangeNothing(t *testing.T) {
	x := opened(t, 20, 20, 4, 4, 1)
	x.comes(packet(1, on(1, 3)), packet(2, loop(id(1))), letter(3, 1, id(3), "three"))
	quiet(t, func() {
		for seq := 1; seq < 10; seq++ {
			tells(t, x.h, api.Counts{On: 1, Home: 1, Loop: 1}, 1)
			pulls(t, x.h, 1, seq, api.Slot{Id: id(3), Text: "three"})
			if x.h.Len(1) != 1 {
				t.Fatal("there is another number of entries")
			}
		}
		told(t, x.h.Back(), []string{id(1)})
		goesOn(t, x.h, 4, goes(packet(1, on(1, 3))))
	}, x.d.tags, x.d.boxes)
}

// roomy is the list with other things behind its length.
func roomy[T any](l []T, behind T) []T {
	room := append(slices.Clone(l), behind, behind, behind)
	return room[:len(l)]
}

// TestAccountsStayAsTheyAre: neither they nor what lies behind their length is changed, nor is that read.
func TestAccountsStayAsTheyAre(t *testing.T) {
	for _, x := range append(wrongAccounts(), refusal{accounts(5, 3, 1), api.OK}, refusal{accounts(users(0, 64)...), api.OK}, refusal{nil, api.OK}, refusal{[]api.Account{}, api.OK}) {
		for _, behind := range []api.Account{{User: -1, Key: "behind"}, {User: 5, Key: key(5)}} {
			l := roomy(x.l, behind)
			was := slices.Clone(l[:cap(l)])
			g := right(t)
			g.l = l
			h := g.new(t, x.e)
			if x.e == api.OK {
				for _, a := range l {
					taken(t, h, carries(letter(a.User, a.User, id(1), "hi")), api.OK)
					pulls(t, h, a.User, 1, api.Slot{Id: id(1), Text: "hi"})
					taken(t, h, ack(a.User, 2, id(1)), api.OK)
					is(t, h.Rotate(), api.OK) // room for one more tag
				}
				if len(l) == 0 {
					taken(t, h, pull(5, 1), api.ErrAuth)
				}
			}
			told(t, l[:cap(l)], was)
		}
	}
}

// TestAccountsCanBeChangedBehindNew without changing the host.
func TestAccountsCanBeChangedBehindNew(t *testing.T) {
	g := right(t)
	l := roomy(accounts(1, 2, 3), api.Account{})
	g.l = l
	h := g.new(t, api.OK)
	l[0] = api.Account{User: 4, Key: key(4)}
	l[1].Key = key(9)
	l[2].User = 2
	l = append(l, api.Account{User: 5, Key: key(5)})
	for user := 1; user < 4; user++ {
		taken(t, h, carries(letter(user, user, id(user), "hi")), api.OK)
		pulls(t, h, user, 1, api.Slot{Id: id(user), Text: "hi"})
	}
	for user := 4; user < 6; user++ {
		taken(t, h, carries(letter(user, user, id(user), "hi")), api.ErrAuth)
		taken(t, h, pull(user, 1), api.ErrAuth)
	}
	taken(t, h, pullBy(key(9), 2, 2), api.ErrAuth)
	taken(t, h, pullBy(key(3), 2, 2), api.ErrAuth)
	clear(l)
	pulls(t, h, 2, 2, api.Slot{Id: id(2), Text: "hi"})
	taken(t, h, pull(0, 1), api.ErrAuth)
}

// spoil writes a text over, as no program of the language could.
func spoil(s string) {
	b := unsafe.Slice(unsafe.StringData(s), len(s))
	for i := range b {
		b[i] = '?'
	}
}

// fresh is the same text in memory that may be written over.
func fresh(s string) string { return string([]byte(s)) }

// TestNothingIsShared: texts are written over once they were handed in or answered; the host and the disks have them still.
func TestNothingIsShared(t *testing.T) {
	d := newDisks(t, 60, 80)
	k, own := fresh(key(1)), fresh(private(0))
	h, e := host.New(own, d.tags, d.boxes, []api.Account{{User: 1, Key: k}}, 8, 8)
	is(t, e, api.OK)
	spoil(k)
	spoil(own)
	take := func(s string, want api.Errno) string {
		t.Helper()
		s = fresh(s)
		r, e := h.Take(s)
		is(t, e, want)
		spoil(s)
		return r
	}
	var l, tags, entries []string
	var want []api.Out
	var box []api.Slot
	for k := range 8 {
		p := []string{packet(k, on(k, 3)), letter(k, 1, id(k), fmt.Sprint("the text ", k)), packet(k, loop(id(k)))}[k%3]
		l, tags = append(l, p), append(tags, tagOf(p))
		switch k % 3 {
		case 0:
			want = append(want, goes(p))
		case 1:
			box = append(box, api.Slot{Id: id(k), Text: fmt.Sprint("the text ", k)})
			entries = append(entries, recordP(1, id(k), fmt.Sprint("the text ", k)))
		}
		take(carries(p), api.OK)
	}
	for seq := 1; seq < 4; seq++ {
		r := take(pull(1, seq), api.OK)
		told(t, []string{r}, []string{reply(1, seq, box...)})
		spoil(r)
	}
	outs, e := h.Tick(4)
	is(t, e, api.OK)
	told(t, outs, want)
	back := h.Back()
	told(t, back, []string{id(2), id(5)})
	for _, o := range outs {
		spoil(o.Packet)
	}
	for _, s := range back {
		spoil(s)
	}
	take(ack(1, 4, id(4)), api.OK)
	for _, p := range l {
		take(carries(p), api.ErrSeen)
	}
	told(t, []string{take(pull(1, 5), api.OK)}, []string{reply(1, 5, slices.Delete(slices.Clone(box), 1, 2)...)})
	told(t, h.Back(), nil)
	goesOn(t, h, maxTick)
	holds(t, d.tags, tags...)
	holds(t, d.boxes, append(entries, recordA(1, id(4)))...)
}

// TestAnswersAreNew: lists that were answered are written over, their spare room too; the host, and what was answered beside, stay.
func TestAnswersAreNew(t *testing.T) {
	x := opened(t, 100, 100, 20, 4, 1)
	now := 0
	var outs [][]api.Out
	var back [][]string
	for k := range 5 {
		n := 10 * k
		x.comes(packet(n, on(1, 0)), packet(n+1, on(2, 1)), packet(n+2, on(3, 0)), packet(n+3, loop(id(n))), packet(n+4, loop(id(n+1))))
		now++
		l, _ := x.tick(now)
		told(t, l[len(l)-2:], []api.Out{goes(packet(n, on(1, 0))), goes(packet(n+2, on(3, 0)))})
		ids := x.back()
		told(t, ids, []string{id(n), id(n + 1)})
		for i := range outs {
			told(t, outs[i], slices.Repeat([]api.Out{{Node: -1, Packet: "changed"}}, len(outs[i])))
			told(t, back[i], slices.Repeat([]string{"changed"}, len(back[i])))
		}
		l, ids = l[:cap(l)], ids[:cap(ids)]
		for i := range l {
			l[i] = api.Out{Node: -1, Packet: "changed"}
		}
		for i := range ids {
			ids[i] = "changed"
		}
		outs, back = append(outs, l), append(back, ids)
		x.looks()
	}
	before := x.h.Counts()
	before.Home, before.Bad = 7, 9
	x.tick(now + 2)
	tells(t, x.h, api.Counts{On: 15, Loop: 10}, 0)
}

// TestHostOfADiskThatWasDown: a host whose disk was down, or crashed, is not to be asked; its calls end all the same.
func TestHostOfADiskThatWasDown(t *testing.T) {
	for n := range 12 {
		for which := range 2 {
			for _, crashed := range []bool{false, true} {
				d := newDisks(t, 10, 10)
				h, e := host.New(private(0), d.tags, d.boxes, accounts(1, 2, 3), 2, 2)
				is(t, e, api.OK)
				d.fuse(t, which, n)
				for k := range 8 {
					h.Take(carries(mixed(k)))
					h.Rotate()
					if crashed {
						d.tags.Crash(7, 64)
						d.boxes.Crash(7, 64)
					}
					h.Take(ack(1, 2*k+1, id(0), id(1)))
					h.Take(pull(1, 2*k+2))
					h.Tick(k)
					h.Back()
					h.Counts()
					h.Waits()
					h.Len(k)
					h.Take(carries(mixed(k)))
					h.Take("")
					h.Tick(-k)
				}
				h.Tick(maxTick)
			}
		}
	}
}

// TestOneDiskForBoth: of a disk that is written beside a log nothing is said; the calls end all the same.
func TestOneDiskForBoth(t *testing.T) {
	for _, sectors := range []int{4, 9, 12, 40} {
		d := newDisk(t, sectors)
		for k := range 20 {
			h, e := host.New(private(0), d, d, accounts(1, 2, 3), 2, 8)
			if e != api.OK {
				d = newDisk(t, sectors)
				continue
			}
			for n := range 8 {
				h.Take(carries(mixed(n + k)))
				h.Take(pull(1, 2*n+1))
				h.Take(ack(1, 2*n+2, id(n%3)))
				h.Rotate()
				h.Tick(n)
			}
		}
	}
}

// TestEndsAtAllArguments: none of the calls panics, and each tells what the plain one does.
func TestEndsAtAllArguments(t *testing.T) {
	by := rand.New(rand.NewSource(99))
	x := opened(t, 40, 40, 2, 2, 0, 1, 63)
	for range 3000 {
		s := drawnText(by, []int{0, 1, 16, 37, 38, 39, 101, 102, 103, 504, 505, 506, 961, 962, 963, by.Intn(1100)}[by.Intn(16)])
		if len(s) > 1 && by.Intn(3) > 0 {
			s = string([]byte{byte(by.Intn(6)), []byte{0, 1, 63, 64, 255}[by.Intn(5)]}) + s[2:]
		}
		if len(s) == 38 && by.Intn(2) == 0 {
			s = signed(key(int(s[1])), s[:6], "")
		}
		if len(s) == 102 && by.Intn(2) == 0 {
			s = signed(key(int(s[1])), s[:6], s[38:])
		}
		x.take(s)
	}
	for _, s := range []string{strings.Repeat("\x01", 1<<22), strings.Repeat("\x02", 1<<16), strings.Repeat("\x00", 1<<16)} {
		x.refuses(api.ErrMail, s)
	}
	for _, n := range []int{math.MinInt, -1, 64, 1 << 32, math.MaxInt} {
		x.h.Len(n)
		x.tick(n)
	}
}

// TestHostsDoNotKnowOfOneAnother: neither of tags nor of entries, pools, times, loops, counts, Seqs, nor of what befalls disks.
func TestHostsDoNotKnowOfOneAnother(t *testing.T) {
	a, b := opened(t, 20, 20, 1, 1, 1, 2), opened(t, 20, 20, 3, 3, 1, 3)
	p, q, l, r := packet(1, on(1, 2)), letter(2, 1, id(2), "two"), packet(3, loop(id(3))), letter(4, 1, id(4), "four")
	a.comes(p, q, l)
	tells(t, b.h, api.Counts{}, 0)
	b.shows(1)
	a.bad(api.ErrFull, r)
	b.comes(r, q, p)
	a.shows(1, api.Slot{Id: id(2), Text: "two"})
	a.takes(ack(1, 9, id(2), id(4)))
	b.refuses(api.ErrAuth, pull(2, 1))
	b.shows(1, api.Slot{Id: id(4), Text: "four"}, api.Slot{Id: id(2), Text: "two"})
	a.refuses(api.ErrAuth, pull(3, 1))
	told(t, b.back(), nil)
	told(t, a.back(), []string{id(3)})
	a.ticks(1)
	b.ticks(0)
	is(t, a.rotate(), api.OK)
	is(t, a.rotate(), api.OK)
	b.bad(api.ErrSeen, q)
	a.ticks(3, p)
	a.fuse(0, 1)
	b.comes(letter(5, 3, id(5), ""))
	a.bad(api.ErrDown, letter(5, 2, id(5), ""))
	a.crash(nil, nil)
	b.shows(3, api.Slot{Id: id(5)})
	tells(t, b.h, api.Counts{On: 1, Home: 3, Twice: 1}, 1)
	by := rand.New(rand.NewSource(18))
	pairs := []*pair{newPair(t, 8, 8), newPair(t, 12, 20), newPair(t, 12, 20)}
	for range 400 {
		pairs[by.Intn(len(pairs))].plays(by)
		for _, x := range pairs {
			x.looks()
		}
	}
}

// TestFromMail: what chapter 11 encodes is taken, and what is replied is decoded.
func TestFromMail(t *testing.T) {
	x := opened(t, 40, 40, 4, 8, 1)
	for k := range 6 {
		s, e := mail.Encode(api.Mail{Kind: api.MPacket, Text: letter(k, 1, id(k), fmt.Sprint(k))})
		is(t, e, api.OK)
		x.takes(s)
	}
	r, e := x.take(pull(1, 258))
	is(t, e, api.OK)
	m, e := mail.Decode(r)
	is(t, e, api.OK)
	if m.Kind != api.MReply || m.User != 1 || m.Seq != 258 || m.Text != "" || m.Tag != "" || len(m.Ids) != 0 {
		t.Fatalf("the reply is %v", m)
	}
	told(t, m.Slots, []api.Slot{{Id: id(0), Text: "0"}, {Id: id(1), Text: "1"}, {Id: id(2), Text: "2"}, {Id: id(3), Text: "3"}})
}

// TestSameCallsTellTheSame, again and again, and at the same time.
func TestSameCallsTellTheSame(t *testing.T) {
	play := func() string {
		by := rand.New(rand.NewSource(4))
		tags, _ := disk.New(20)
		boxes, _ := disk.New(20)
		h, _ := host.New(private(0), tags, boxes, accounts(1, 2, 63), 3, 3)
		now, seq := 0, 0
		var said strings.Builder
		for range 200 {
			var e api.Errno
			var l []api.Out
			r := ""
			switch by.Intn(10) {
			case 0, 1:
				to := drawnTime(by, now)
				if l, e = h.Tick(to); e == api.OK {
					now = to
				}
			case 2:
				fmt.Fprintf(&said, "%x\n", h.Back())
			case 3:
				tags.Fuse(by.Intn(20))
				boxes.Fuse(by.Intn(20))
			case 4:
				e = h.Rotate()
			case 5, 6, 7:
				seq++
				r, e = h.Take(drawnAsk(by, map[int]int{1: seq, 2: seq, 63: seq}))
			default:
				r, e = h.Take(carries(drawnPacket(by)))
			}
			if e == api.ErrDown {
				tags.Crash(drawnPicks(by, tags.Waits())...)
				boxes.Crash(drawnPicks(by, boxes.Waits())...)
				h, e = host.New(private(0), tags, boxes, accounts(1, 2, 63), 3, 3)
				now = 0
			}
			fmt.Fprintf(&said, "%d %x %v %d %x %d %d\n", e, r, h.Counts(), h.Waits(), l, h.Len(1), h.Len(2))
		}
		for _, d := range []*disk.Disk{tags, boxes} {
			for i := range d.Size() {
				s, _ := d.Read(i)
				fmt.Fprintf(&said, "%x\n", s)
			}
		}
		return said.String()
	}
	want := play()
	var everyone sync.WaitGroup
	said := make([]string, 8)
	for k := range said {
		everyone.Go(func() { said[k] = play() })
	}
	everyone.Wait()
	for _, s := range said {
		if s != want {
			t.Fatal("another answer")
		}
	}
}
