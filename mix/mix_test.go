package mix_test

import (
	"crypto/sha256"
	"encoding/binary"
	"fmt"
	"math"
	"math/rand"
	"slices"
	"strings"
	"sync"
	"testing"

	"dovecote/api"
	"dovecote/curve"
	"dovecote/disk"
	"dovecote/head"
	"dovecote/keyed"
	"dovecote/log"
	"dovecote/mix"
	"dovecote/seen"
	"dovecote/stream"
	"dovecote/wide"
)

const maxTick = 1 << 40

// wrongPools is numbers that a pool may not be.
func wrongPools() []int {
	return []int{0, -1, -16, 4097, 4098, 1 << 16, 1 << 31, 1<<32 + 1, math.MaxInt, math.MinInt}
}

// wrongKeys is texts that no private key is.
func wrongKeys() (l []string) {
	for _, n := range []int{0, 1, 16, 31, 33, 34, 48, 63, 64, 248, 504, 1 << 16} {
		l = append(l, strings.Repeat("k", n))
	}
	return l
}

func zeros(many int) string { return strings.Repeat("\x00", many) }

// turned is the text with the byte at a place xor another.
func turned(s string, at int, by byte) string {
	return s[:at] + string([]byte{s[at] ^ by}) + s[at+1:]
}

func drawnText(by *rand.Rand, long int) string {
	b := make([]byte, long)
	by.Read(b)
	return string(b)
}

// read is all sectors of a disk that is up.
func read(t *testing.T, d *disk.Disk) (l []string) {
	t.Helper()
	for i := range d.Size() {
		s, e := d.Read(i)
		is(t, e, api.OK)
		l = append(l, s)
	}
	return l
}

// takeDown leaves a disk that is down.
func takeDown(t *testing.T, d *disk.Disk) {
	t.Helper()
	is(t, d.Fuse(1), api.OK)
	is(t, d.Sync(), api.ErrDown)
}

// quiet fails unless a call neither writes nor syncs: a fuse of 1 is not through.
func quiet(t *testing.T, d *disk.Disk, call func()) {
	t.Helper()
	was := read(t, d)
	if d.Waits() != 0 {
		t.Fatal("something waits already")
	}
	is(t, d.Fuse(1), api.OK)
	call()
	if d.Waits() != 0 || !slices.Equal(read(t, d), was) {
		t.Fatal("the disk was written")
	}
	is(t, d.Sync(), api.ErrDown)
	is(t, d.Crash(), api.OK)
}

// Records of chapter 17.

func recordE(epoch int) string {
	return "E" + string(binary.BigEndian.AppendUint32(nil, uint32(epoch)))
}

func recordT(tag string) string { return "T" + tag }

// tagOf is the record of a packet of the node 0.
func tagOf(packet string) string { return recordT(peeled(packet).Tag) }

// tag is one of as many as one likes, none of them a packet's.
func tag(k int) string { return fmt.Sprintf("tag %12d", k) }

// fill is records of tags.
func fill(many int) (l []string) {
	for k := range many {
		l = append(l, recordT(tag(k)))
	}
	return l
}

// lay appends records by a log alone.
func lay(t *testing.T, d *disk.Disk, records ...string) {
	t.Helper()
	l, e := log.Open(d)
	is(t, e, api.OK)
	for _, r := range records {
		is(t, l.Append(r), api.OK)
	}
	is(t, l.Sync(), api.OK)
}

// lays brings records onto both disks, and leaves no node that may be asked.
func (x *pair) lays(records ...string) {
	x.t.Helper()
	x.m, x.p = nil, nil
	lay(x.t, x.d, records...)
	lay(x.t, x.pd, records...)
	x.looks()
}

// holds fails unless these records lie on a disk.
func holds(t *testing.T, d *disk.Disk, records ...string) {
	t.Helper()
	l, e := log.Open(d)
	is(t, e, api.OK)
	if got := l.Records(); !slices.Equal(got, records) {
		t.Fatalf("the records are %q; want %q", got, records)
	}
}

// headOf is the first sector of a half of that generation.
func headOf(generation int) string {
	front := "LOG\x00" + string(binary.BigEndian.AppendUint32(nil, uint32(generation)))
	sum := sha256.Sum256([]byte(front))
	return front + string(sum[:16]) + zeros(40)
}

// refuses fails unless New answers an error, and no node beside it.
func refuses(t *testing.T, private string, d *disk.Disk, pool int, want api.Errno) {
	t.Helper()
	if m, e := mix.New(private, d, pool); m != nil || e != want {
		t.Fatalf("New of %d bytes, pool %d: a node %t, error %d; want %d", len(private), pool, m != nil, e, want)
	}
}

// begun fails unless New answers a node.
func begun(t *testing.T, private string, d *disk.Disk, pool int) *mix.Mix {
	t.Helper()
	m, e := mix.New(private, d, pool)
	if m == nil || e != api.OK {
		t.Fatalf("New of %d bytes, pool %d: a node %t, error %d", len(private), pool, m != nil, e)
	}
	return m
}

// goesOn fails unless just these packets go on by that time.
func goesOn(t *testing.T, m *mix.Mix, to int, want ...api.Out) {
	t.Helper()
	l, e := m.Tick(to)
	is(t, e, api.OK)
	told(t, l, want)
}

// isNew fails unless a node has an empty pool, and the time 0.
func isNew(t *testing.T, m *mix.Mix) {
	t.Helper()
	tells(t, m, api.Counts{}, 0)
	told(t, m.Back(), nil)
	goesOn(t, m, 0)
	l, e := m.Tick(-1)
	is(t, e, api.ErrLate)
	told(t, l, nil)
}

// Promise 19.1.

func TestNew(t *testing.T) {
	for _, sectors := range []int{4, 5, 6, 7, 20, 63, 1023, 1024} {
		for _, pool := range []int{1, 2, 100, 4095, 4096} {
			d := newDisk(t, sectors)
			isNew(t, begun(t, private(0), d, pool))
			holds(t, d)
		}
	}
}

// TestPrivateKeys: any 32 bytes are one. ErrForm is named first, so that it is told beside all else that is wrong, and the disk is left alone.
func TestPrivateKeys(t *testing.T) {
	for _, key := range []string{zeros(32), strings.Repeat("\xff", 32), strings.Repeat("k", 32), "\x00" + strings.Repeat("\xf0", 31)} {
		p, e := curve.Public(key)
		is(t, e, api.OK)
		m := begun(t, key, newDisk(t, 20), 2)
		is(t, m.Take(made(1, []string{p}, "", drop())), api.OK)
		is(t, m.Take(made(2, []string{p, p}, "", on(3, 0), drop())), api.OK)
		tells(t, m, api.Counts{On: 1, Drop: 1}, 1)
	}
	for _, key := range wrongKeys() {
		for _, pool := range append(wrongPools(), 1, 2, 4096) {
			d, down := newDisk(t, 20), newDisk(t, 20)
			takeDown(t, down)
			quiet(t, d, func() { refuses(t, key, d, pool, api.ErrForm) })
			refuses(t, key, nil, pool, api.ErrForm)
			refuses(t, key, newDisk(t, 3), pool, api.ErrForm)
			refuses(t, key, down, pool, api.ErrForm)
		}
	}
}

// TestPoolsThatMayNotBe are told ahead of what is wrong with the disk.
func TestPoolsThatMayNotBe(t *testing.T) {
	for _, pool := range wrongPools() {
		d, down, rot := newDisk(t, 20), newDisk(t, 20), newDisk(t, 20)
		takeDown(t, down)
		lay(t, rot, "neither a tag nor an epoch")
		quiet(t, d, func() { refuses(t, private(0), d, pool, api.ErrRange) })
		refuses(t, private(0), nil, pool, api.ErrRange)
		refuses(t, private(0), newDisk(t, 3), pool, api.ErrRange)
		refuses(t, private(0), down, pool, api.ErrRange)
		refuses(t, private(0), rot, pool, api.ErrRange)
	}
}

func TestNewRefusesWhatTheSetRefuses(t *testing.T) {
	for _, pool := range []int{1, 7, 4096} {
		refuses(t, private(0), nil, pool, api.ErrNone)
		for sectors := 1; sectors < 4; sectors++ {
			refuses(t, private(0), newDisk(t, sectors), pool, api.ErrShape)
		}
		down := newDisk(t, 4)
		takeDown(t, down)
		refuses(t, private(0), down, pool, api.ErrDown)
		for _, records := range [][]string{{"x"}, {recordT(tag(0)), recordT("short")}, {recordE(2), recordE(1)}, {recordE(1 << 31)}, {recordT(tag(0)), recordE(1) + "\x00"}} {
			d := newDisk(t, 20)
			lay(t, d, records...)
			refuses(t, private(0), d, pool, api.ErrRot)
			holds(t, d, records...)
		}
	}
}

// TestNewOfADiskThatRefuses: a fuse at each write and sync on the way, on a disk without a log, and on one with something behind its log's records.
func TestNewOfADiskThatRefuses(t *testing.T) {
	for name, begin := range map[string]func(d *disk.Disk){
		"new": func(d *disk.Disk) {},
		"full of something else": func(d *disk.Disk) {
			for i := range d.Size() {
				is(t, d.Write(i, strings.Repeat("w", 64)), api.OK)
			}
		},
		"torn": func(d *disk.Disk) {
			lay(t, d, recordT(tag(0)))
			is(t, d.Write(3, strings.Repeat("w", 64)), api.OK)
			is(t, d.Write(5, strings.Repeat("w", 64)), api.OK)
		},
	} {
		for n := 1; ; n++ {
			d := newDisk(t, 12)
			begin(d)
			is(t, d.Sync(), api.OK)
			is(t, d.Fuse(n), api.OK)
			m, e := mix.New(private(0), d, 4)
			if e == api.OK && m != nil && n > 2 {
				break
			}
			if e != api.ErrDown || m != nil || n > 20 {
				t.Fatalf("%s, a fuse of %d: a node %t, error %d", name, n, m != nil, e)
			}
			is(t, d.Crash(64, 64, 7), api.OK)
			isNew(t, begun(t, private(0), d, 4))
		}
	}
}

// TestTagsThatAreThere: a node has those of the disk, and what it takes is there for a set.
func TestTagsThatAreThere(t *testing.T) {
	l := []string{packet(1, on(1, 0)), packet(2, loop(id(2))), packet(3, drop()), packet(4, on(2, 7)), packet(5, loop(id(5))), packet(6, drop())}
	d := newDisk(t, 20)
	lay(t, d, recordT(tag(0)), tagOf(l[0]), recordE(6), tagOf(l[1]), recordE(7), tagOf(l[2]))
	m := begun(t, private(0), d, 4)
	isNew(t, m)
	is(t, m.Take(l[0]), api.OK) // its epoch is over
	is(t, m.Take(l[1]), api.ErrSeen)
	is(t, m.Take(l[2]), api.ErrSeen)
	for _, p := range l[3:] {
		is(t, m.Take(p), api.OK)
		is(t, m.Take(p), api.ErrSeen)
	}
	tells(t, m, api.Counts{On: 2, Loop: 1, Drop: 1, Twice: 5}, 2)
	s, e := seen.Open(d, 4096)
	is(t, e, api.OK)
	told(t, s.Tags(), []string{peeled(l[1]).Tag, peeled(l[2]).Tag, peeled(l[0]).Tag, peeled(l[3]).Tag, peeled(l[4]).Tag, peeled(l[5]).Tag})
	if s.Epoch() != 7 {
		t.Fatalf("the epoch %d", s.Epoch())
	}
}

// TestRecordsOfCalls: a tag for each packet that is taken, an epoch for each Rotate, nothing for any other call.
func TestRecordsOfCalls(t *testing.T) {
	x := opened(t, 40, 1)
	a, b, c, h := packet(1, on(1, 0)), packet(2, on(2, 0)), packet(3, loop(id(3))), packet(4, home(1, 2, id(4)))
	x.takes(a)
	quiet(t, x.d, func() {
		is(t, x.m.Take(a), api.ErrPool)
		is(t, x.m.Take(b), api.ErrPool)
		is(t, x.m.Take(h), api.ErrRoute)
		is(t, x.m.Take(turned(c, 40, 1)), api.ErrMac)
		is(t, x.m.Take(turned(c, 400, 1)), api.ErrBody)
		is(t, x.m.Take(""), api.ErrForm)
		goesOn(t, x.m, 1, goes(a))
		is(t, x.m.Take(a), api.ErrSeen)
		x.m.Back()
		x.m.Tick(maxTick)
		is(t, x.m.Take(b), api.ErrRange)
		tells(t, x.m, api.Counts{On: 1, Twice: 1, Bad: 7}, 0)
	})
	holds(t, x.d, tagOf(a))
	is(t, x.open(1), api.OK)
	x.takes(b, c)
	is(t, x.rotate(), api.OK)
	is(t, x.take(packet(5, drop())), api.OK)
	holds(t, x.d, tagOf(a), tagOf(b), tagOf(c), recordE(1), tagOf(packet(5, drop())))
}

// TestTagsAreNotThePools: a pool of 1 does not bound how many packets are taken.
func TestTagsAreNotThePools(t *testing.T) {
	x := opened(t, 100, 1)
	for k := range 20 {
		x.takes(packet(k, drop()), packet(k+100, loop(id(k))))
	}
	for k := range 4 {
		x.takes(packet(200+k, on(k, 0)))
		x.ticks(k+1, packet(200+k, on(k, 0)))
	}
	tells(t, x.m, api.Counts{On: 4, Loop: 20, Drop: 20}, 0)
}

// Promise 19.2.

func TestExample(t *testing.T) {
	x := opened(t, 20, 4)
	p := packet(1, on(5, 3))
	x.takes(p)
	x.ticks(3)
	x.ticks(4, p)
	is(t, x.take(p), api.ErrSeen)
	tells(t, x.m, api.Counts{On: 1, Twice: 1}, 0)
}

// TestEachKind: what a command does, and nothing else.
func TestEachKind(t *testing.T) {
	for _, x := range []struct {
		tells  api.Hop
		e      api.Errno
		counts api.Counts
		waits  int
		back   []string
	}{
		{on(0, 0), api.OK, api.Counts{On: 1}, 1, nil},
		{on(31, 4096), api.OK, api.Counts{On: 1}, 1, nil},
		{loop(id(1)), api.OK, api.Counts{Loop: 1}, 0, []string{id(1)}},
		{loop(zeros(16)), api.OK, api.Counts{Loop: 1}, 0, []string{zeros(16)}},
		{loop(strings.Repeat("\xff", 16)), api.OK, api.Counts{Loop: 1}, 0, []string{strings.Repeat("\xff", 16)}},
		{drop(), api.OK, api.Counts{Drop: 1}, 0, nil},
		{home(0, 0, id(1)), api.ErrRoute, api.Counts{Bad: 1}, 0, nil},
		{home(63, 4096, zeros(16)), api.ErrRoute, api.Counts{Bad: 1}, 0, nil},
	} {
		y := opened(t, 20, 1)
		is(t, y.take(packet(7, x.tells)), x.e)
		tells(t, y.m, x.counts, x.waits)
		told(t, y.back(), x.back)
		tells(t, y.m, x.counts, x.waits)
	}
}

// TestGoesOn: to its node, just its delay and one behind the time at which it was taken, and as chapter 9 says.
func TestGoesOn(t *testing.T) {
	for _, node := range []int{0, 1, 30, 31} {
		for _, delay := range []int{0, 1, 2, 63, 64, 255, 256, 4095, 4096} {
			p := packet(1, on(node, delay))
			for _, now := range []int{0, 1, 62, 63, 4095, 1<<39 - 1, maxTick - 1 - delay} {
				x := opened(t, 6, 1)
				x.ticks(now)
				x.takes(p)
				x.ticks(now)
				x.ticks(now + delay)
				l, e := x.tick(now + delay + 1)
				if e != api.OK || len(l) != 1 || l[0].Node != node {
					t.Fatalf("%d: %v, error %d", now+delay+1, l, e)
				}
				if q := peels([2]string{private(99), l[0].Packet}); q.e != api.OK || q.Hop != drop() || q.Text != "the text" {
					t.Fatalf("the next one has %v", q)
				}
				x.ticks(maxTick)
			}
		}
	}
}

// ways are the numbers of nodes that a packet comes through.
func ways() [][]int {
	return [][]int{{0}, {3}, {0, 1}, {2, 2}, {2, 0, 1}, {1, 1, 0}, {4, 3, 2, 1}, {0, 1, 0, 1}, {0, 1, 2, 3, 4}, {1, 1, 1, 1, 1}, {2, 4, 2, 0, 3}}
}

// TestWays: each hop's packet is taken by its node in turn.
func TestWays(t *testing.T) {
	for n, way := range ways() {
		for k, end := range []api.Hop{loop(id(n)), drop(), home(3, 4, id(n))} {
			var nodes [5]*mix.Mix
			for i := range nodes {
				nodes[i] = begun(t, private(i), newDisk(t, 40), 2)
			}
			var path []api.Hop
			for i := range way[1:] {
				path = append(path, on(way[i+1], []int{0, 5, 1, 4096}[(i+n)%4]))
			}
			p := made(10*n+k, all(point, way...), "far", append(path, end)...)
			now := 0
			for i, hop := range path {
				m := nodes[way[i]]
				goesOn(t, m, now)
				is(t, m.Take(p), api.OK)
				goesOn(t, m, now+hop.Delay)
				now += hop.Delay + 1
				next := peels([2]string{private(way[i]), p}).Next
				goesOn(t, m, now, api.Out{Node: way[i+1], Packet: next})
				p = next
			}
			last := nodes[way[len(way)-1]]
			before := last.Counts()
			is(t, last.Take(p), []api.Errno{api.OK, api.OK, api.ErrRoute}[k])
			told(t, last.Back(), [][]string{{id(n)}, nil, nil}[k])
			before.Loop, before.Drop, before.Bad = []int{1, 0, 0}[k], []int{0, 1, 0}[k], []int{0, 0, 1}[k]
			tells(t, last, before, 0)
			is(t, last.Take(p), []api.Errno{api.ErrSeen, api.ErrSeen, api.ErrRoute}[k])
		}
	}
}

// letter is a packet on its way: its number, and which hop it comes to, at which time.
type letter struct {
	k, hop, at int
	packet     string
}

// TestManyWays: packets that are on their way at once, each comes when its delays say.
func TestManyWays(t *testing.T) {
	by := rand.New(rand.NewSource(19))
	var nodes [5]*mix.Mix
	for i := range nodes {
		nodes[i] = begun(t, private(i), newDisk(t, 400), 100)
	}
	type plan struct {
		way  []int
		path []api.Hop
	}
	var plans []plan
	var comes []letter // by the plans
	arrives := map[string]letter{}
	for k := range 60 {
		way := ways()[by.Intn(len(ways()))]
		var path []api.Hop
		for i := range way[1:] {
			path = append(path, on(way[i+1], by.Intn(12)))
		}
		path = append(path, loop(id(k)))
		l := letter{k: k, at: by.Intn(20), packet: made(1000+k, all(point, way...), fmt.Sprint(k), path...)}
		plans, comes = append(plans, plan{way, path}), append(comes, l)
		for i := range way {
			arrives[l.packet] = l
			l.at += 1 + path[i].Delay
			l.packet, l.hop = peels([2]string{private(way[i]), l.packet}).Next, i+1
		}
	}
	back := 0
	for now := range 90 {
		var here []letter
		for _, l := range comes {
			if l.at == now {
				here = append(here, l)
			}
		}
		for i, m := range nodes {
			outs, e := m.Tick(now)
			is(t, e, api.OK)
			for _, o := range outs {
				l, ok := arrives[o.Packet]
				if !ok || l.at != now || plans[l.k].way[l.hop-1] != i || plans[l.k].way[l.hop] != o.Node {
					t.Fatalf("at %d the node %d sends to %d: %v", now, i, o.Node, l)
				}
				here = append(here, l)
			}
		}
		for _, l := range here {
			m := nodes[plans[l.k].way[l.hop]]
			is(t, m.Take(l.packet), api.OK)
			is(t, m.Take(l.packet), api.ErrSeen)
			if l.hop == len(plans[l.k].way)-1 {
				told(t, m.Back(), []string{id(l.k)})
				back++
			}
		}
	}
	if back != len(plans) {
		t.Fatalf("%d of %d came", back, len(plans))
	}
}

// TestOthersPackets: what is another's is refused, also what this node itself sent on.
func TestOthersPackets(t *testing.T) {
	x := opened(t, 40, 8)
	for k, h := range []api.Hop{on(0, 0), on(1, 3), loop(id(1)), drop(), home(1, 1, id(1))} {
		is(t, x.take(packets(making{1, k, h})), api.ErrMac)
		if h.Kind == api.HOn {
			x.takes(packet(k, h))
			is(t, x.take(goes(packet(k, h)).Packet), api.ErrMac)
		}
	}
	tells(t, x.m, api.Counts{On: 2, Bad: 7}, 2)
}

// TestNoPackets: bytes of every length near a packet's, and such as have its length.
func TestNoPackets(t *testing.T) {
	x := opened(t, 6, 1)
	p := packet(1, drop())
	bad := 0
	for n := range 1100 {
		if n == len(p) {
			continue
		}
		is(t, x.m.Take(strings.Repeat(p, 3)[:n]), api.ErrForm)
		bad++
		tells(t, x.m, api.Counts{Bad: bad}, 0)
	}
	x.p.counts.Bad = bad
	for _, s := range []string{strings.Repeat(p, 128), strings.Repeat("x", api.MaxBytes), p + "\x00", "\x00" + p, p[1:] + "\x00\x00"} {
		is(t, x.take(s), api.ErrForm)
	}
	by := rand.New(rand.NewSource(1))
	for range 10 {
		is(t, x.take(drawnText(by, 504)), api.ErrMac)
	}
	is(t, x.take(strings.Repeat("\xff", 504)), api.ErrMac)
	is(t, x.take(zeros(504)), api.ErrWeak)
	is(t, x.take("\x01"+zeros(503)), api.ErrWeak)
	is(t, x.take(p[1:]+p[:1]), api.ErrMac)
	tells(t, x.m, api.Counts{Bad: bad + 19}, 0)
	x.takes(p)
	quiet(t, x.d, func() { is(t, x.m.Take(zeros(504)), api.ErrWeak) })
}

// TestEachPartTurned: a byte of the point, the mac, the list, the payload. One that goes on does not show that its payload was turned: it is the same packet, as its tag tells.
func TestEachPartTurned(t *testing.T) {
	for _, h := range []api.Hop{on(3, 4), loop(id(3)), drop(), home(3, 4, id(3))} {
		for _, x := range []struct {
			places []int
			want   api.Errno
		}{{[]int{0, 15, 31}, api.ErrMac}, {[]int{32, 40, 47}, api.ErrMac}, {[]int{48, 49, 71, 72, 88, 247}, api.ErrMac}, {[]int{248, 249, 400, 503}, api.ErrBody}} {
			y := opened(t, 40, 40)
			p := packet(9, h)
			bad := 0
			for _, at := range x.places {
				for _, by := range []byte{1, 0x40, 0xff} {
					if x.want == api.ErrBody && h.Kind == api.HOn {
						continue
					}
					is(t, y.take(turned(p, at, by)), x.want)
					bad++
				}
			}
			tells(t, y.m, api.Counts{Bad: bad}, 0)
			want := api.OK
			if h.Kind == api.HHome {
				want = api.ErrRoute
			}
			is(t, y.take(p), want)
		}
	}
	p := packet(9, on(3, 4))
	for _, at := range []int{248, 503} {
		x := opened(t, 20, 4)
		q := turned(p, at, 1)
		x.takes(q)
		is(t, x.take(p), api.ErrSeen)
		tells(t, x.m, api.Counts{On: 1, Twice: 1}, 1)
		l, _ := x.tick(5)
		if len(l) != 1 || l[0].Packet[:248] != goes(p).Packet[:248] || l[0].Packet == goes(p).Packet {
			t.Fatal("it did not go on")
		}
	}
}

// TestHighestBitOfPoint: chapter 2 passes it over, so it is the same packet.
func TestHighestBitOfPoint(t *testing.T) {
	for _, h := range []api.Hop{on(3, 4), loop(id(3)), drop()} {
		x := opened(t, 20, 4)
		x.takes(packet(9, h))
		is(t, x.take(turned(packet(9, h), 31, 0x80)), api.ErrSeen)
		is(t, x.take(turned(packet(9, h), 31, 0x81)), api.ErrMac)
	}
}

// forged is a packet for the node 0 with a list that begins with these 24 bytes, right but for these.
func forged(k int, command, block string) string {
	seed := fmt.Sprintf("forged %25d", k)
	from, _ := curve.Public(seed)
	secret, _ := curve.Times(seed, point(0))
	keys, _ := head.Of(secret)
	list, _ := stream.Xor(keys.Flow, zeros(12), 0, command+zeros(176))
	body, _ := wide.Shut(keys.Body, block)
	return from + keyed.Tag(keys.Mac, list)[:16] + list + body
}

// plainBlock is chapter 6's block of a text, ahead of its being shut.
func plainBlock(text string) string {
	return zeros(32) + string([]byte{0, byte(len(text))}) + text + zeros(222-len(text))
}

// TestForgedCommands: those that are none are refused, in a packet that is right beside.
func TestForgedCommands(t *testing.T) {
	x := opened(t, 40, 8)
	for k, c := range []string{zeros(24), "\x05" + zeros(23), "\x01\x20" + zeros(22), "\x01\x00\x10\x01" + zeros(20), "\x04\x01" + zeros(22), "\x03\x00\x00\x01" + zeros(20), "\x04" + zeros(22) + "\x01", strings.Repeat("\xff", 24)} {
		is(t, x.take(forged(k, c, plainBlock("hi"))), api.ErrRoute)
	}
	tells(t, x.m, api.Counts{Bad: 8}, 0)
	x.takes(forged(20, "\x04"+zeros(23), plainBlock("hi")), forged(21, "\x03"+zeros(23), plainBlock("")), forged(22, "\x01"+zeros(23), zeros(256)))
	tells(t, x.m, api.Counts{On: 1, Loop: 1, Drop: 1, Bad: 8}, 1)
	is(t, x.take(forged(23, "\x04"+zeros(23), "\x01"+plainBlock("hi")[1:])), api.ErrBody)
	is(t, x.take(forged(24, "\x02"+zeros(23), plainBlock("hi"))), api.ErrRoute)
	is(t, x.take(forged(25, "\x02"+zeros(23), "\x01"+plainBlock("hi")[1:])), api.ErrBody)
	tells(t, x.m, api.Counts{On: 1, Loop: 1, Drop: 1, Bad: 11}, 1)
}

// TestHome: it is refused each time, and was not seen; also with a full pool, at the end of time, and without room for a tag.
func TestHome(t *testing.T) {
	x := opened(t, 4, 1)
	h := packet(1, home(1, 4096, id(1)))
	for range 3 {
		quiet(t, x.d, func() { is(t, x.m.Take(h), api.ErrRoute) })
		is(t, x.open(1), api.OK)
	}
	x.takes(packet(2, on(1, 4096)))
	is(t, x.take(h), api.ErrRoute)
	x.ticks(maxTick, packet(2, on(1, 4096)))
	is(t, x.take(h), api.ErrRoute)
	is(t, x.take(packet(3, drop())), api.ErrSpace)
	is(t, x.take(h), api.ErrRoute)
	tells(t, x.m, api.Counts{On: 1, Bad: 4}, 0)
	holds(t, x.d, tagOf(packet(2, on(1, 4096))))
}

// TestPool: just as many packets as the pool has, one more, and one again behind a Tick that lets one go. The one that was refused was not seen.
func TestPool(t *testing.T) {
	for _, pool := range []int{1, 2, 3, 8} {
		x := opened(t, 100, pool)
		var l []string
		for k := range pool {
			l = append(l, packet(k, on(k, 10+k)))
			x.takes(l[k])
		}
		more, again := packet(90, on(9, 0)), packet(91, on(9, 0))
		is(t, x.take(more), api.ErrPool)
		is(t, x.take(l[0]), api.ErrPool) // named ahead of ErrSeen
		x.takes(packet(92, drop()), packet(93, loop(id(3))))
		is(t, x.take(packet(92, drop())), api.ErrSeen)
		is(t, x.take(again), api.ErrPool)
		x.ticks(10)
		is(t, x.take(more), api.ErrPool)
		x.ticks(11, l[0])
		is(t, x.take(l[0]), api.ErrSeen)
		x.takes(more)
		is(t, x.take(again), api.ErrPool)
		tells(t, x.m, api.Counts{On: pool + 1, Loop: 1, Drop: 1, Twice: 2, Bad: 5}, pool)
		x.ticks(12, slices.Concat(l[1:min(2, pool)], []string{more})...)
		x.takes(again)
		x.ticks(maxTick, slices.Concat(l[min(2, pool):min(3, pool)], []string{again}, l[min(3, pool):])...)
		tells(t, x.m, api.Counts{On: pool + 2, Loop: 1, Drop: 1, Twice: 2, Bad: 5}, 0)
	}
}

// TestPoolsOfOtherSizes: a node that is opened anew has the pool that it is told, whatever it had.
func TestPoolsOfOtherSizes(t *testing.T) {
	x := opened(t, 60, 2)
	next := 0
	for _, pool := range []int{2, 1, 4, 3} {
		is(t, x.open(pool), api.OK)
		for range pool {
			x.takes(packet(next, on(1, 7)))
			next++
		}
		is(t, x.take(packet(next, on(1, 7))), api.ErrPool)
	}
}

// TestGreatestPool: api.MaxItems packets wait. They are fewer than that many, each taken again once its tag is there no more.
func TestGreatestPool(t *testing.T) {
	t.Parallel()
	const group = 64
	var l [2 * group]string
	var everyone sync.WaitGroup
	for k := range l {
		everyone.Go(func() {
			l[k] = packet(k, on(k%32, 2+k*37%4000))
			peeled(l[k])
		})
	}
	everyone.Wait()
	x := opened(t, 400, 4096)
	for k := range 4096 {
		if k%group == 0 {
			is(t, x.rotate(), api.OK)
		}
		p := l[k%len(l)]
		if k == 2000 {
			p = packet(1000, on(7, 0)) // the first one that goes on
		}
		if e, want := x.m.Take(p), x.p.take(p); e != api.OK || want != api.OK {
			t.Fatalf("%d: error %d; want %d", k, e, want)
		}
	}
	x.looks()
	tells(t, x.m, api.Counts{On: 4096}, 4096)
	is(t, x.take(packet(1001, on(7, 1))), api.ErrPool)
	x.takes(packet(1002, drop()))
	x.ticks(1, packet(1000, on(7, 0)))
	x.takes(packet(1001, on(7, 1)))
	is(t, x.take(packet(1003, on(7, 1))), api.ErrPool)
	tells(t, x.m, api.Counts{On: 4097, Drop: 1, Bad: 2}, 4096)
	for _, to := range []int{1, 2, 3, 63, 64, 65, 1000, 4095, maxTick} {
		x.tick(to)
	}
	tells(t, x.m, api.Counts{On: 4097, Drop: 1, Bad: 2}, 0)
}

// TestEndOfTime: a packet whose time, with one and its delay, is api.MaxTick, and one above it, which was not seen.
func TestEndOfTime(t *testing.T) {
	for _, delay := range []int{0, 1, 2, 255, 4095, 4096} {
		p, q := packet(1, on(3, delay)), packet(2, on(4, delay))
		x := opened(t, 20, 4)
		x.ticks(maxTick - delay - 1)
		x.takes(p)
		x.ticks(maxTick - 1)
		if delay > 0 {
			is(t, x.take(q), api.ErrRange)
		}
		x.ticks(maxTick, p)
		for range 2 {
			is(t, x.take(q), api.ErrRange)
		}
		is(t, x.take(p), api.ErrRange) // named ahead of ErrSeen
		x.takes(packet(5, drop()), packet(6, loop(id(6))))
		x.ticks(maxTick)
		is(t, x.open(4), api.OK)
		x.ticks(maxTick - delay)
		is(t, x.take(q), api.ErrRange)
		is(t, x.open(4), api.OK)
		is(t, x.take(p), api.ErrSeen)
		x.takes(q)
		x.ticks(delay)
		x.ticks(delay+1, q)
	}
}

// TestTakeRefusesInOrder has all mixtures of what can be wrong: what is named first is told.
func TestTakeRefusesInOrder(t *testing.T) {
	for kind, h := range []api.Hop{on(3, 4096), drop(), loop(id(1)), home(1, 0, id(1))} {
		for mixture := range 64 {
			fullPool, late, wasSeen, noRoom, isDown, torn := mixture&1 > 0, mixture&2 > 0, mixture&4 > 0, mixture&8 > 0, mixture&16 > 0, mixture&32 > 0
			p, want := packet(1, h), api.OK
			x := newPair(t, 12) // room for five records
			records := fill(4)
			if wasSeen {
				records[0] = tagOf(p)
			}
			if !noRoom {
				records = records[:1]
			}
			x.lays(records...)
			is(t, x.open(1), api.OK)
			if late {
				x.ticks(maxTick - 10)
			}
			if fullPool {
				x.takes(packet(2, on(1, 3)))
			} else {
				x.takes(packet(2, drop()))
			}
			if isDown {
				want = api.ErrDown
				takeDown(t, x.d)
				takeDown(t, x.pd)
			}
			switch {
			case torn:
				p, want = turned(p, 33, 8), api.ErrMac
			case kind == 3:
				want = api.ErrRoute
			case kind == 0 && fullPool:
				want = api.ErrPool
			case kind == 0 && late:
				want = api.ErrRange
			case wasSeen:
				want = api.ErrSeen
			case noRoom:
				want = api.ErrSpace
			}
			e, plain := x.m.Take(p), x.p.take(p)
			if e != want || plain != want {
				t.Fatalf("%v, the mixture %b: error %d, the plain one's %d; want %d", h, mixture, e, plain, want)
			}
			tells(t, x.m, x.p.counts, len(x.p.waits))
		}
	}
}

// TestTakeOfADiskThatRefuses: a fuse at each write and sync, of a Take whose tag finds room, and of one whose log is compacted. It is refused, waits not, and is counted as Bad.
func TestTakeOfADiskThatRefuses(t *testing.T) {
	for _, x := range []struct {
		records []string
		many    int // writes and syncs
	}{{nil, 2}, {[]string{recordE(1), recordE(2), recordE(3), recordT(tag(0)), recordE(4)}, 8}} {
		for _, h := range []api.Hop{on(3, 2), loop(id(1)), drop()} {
			for n := 1; n <= x.many+1; n++ {
				d := newDisk(t, 12)
				lay(t, d, x.records...)
				m := begun(t, private(0), d, 4)
				is(t, d.Fuse(n), api.OK)
				e := m.Take(packet(1, h))
				if n > x.many {
					is(t, e, api.OK)
					break
				}
				is(t, e, api.ErrDown)
				tells(t, m, api.Counts{Bad: 1}, 0)
				told(t, m.Back(), nil)
			}
		}
	}
}

// TestTwice: at once, behind a Tick, behind a crash, behind one Rotate and behind two.
func TestTwice(t *testing.T) {
	for _, h := range []api.Hop{on(3, 2), loop(id(1)), drop()} {
		p := packet(1, h)
		counts := map[int]api.Counts{api.HOn: {On: 1}, api.HLoop: {Loop: 1}, api.HDrop: {Drop: 1}}[h.Kind]
		waits := counts.On
		x := opened(t, 40, 4)
		x.takes(p)
		for n := range 4 {
			is(t, x.take(p), api.ErrSeen)
			counts.Twice = n + 1
			tells(t, x.m, counts, waits)
		}
		x.tick(3)
		is(t, x.take(p), api.ErrSeen)
		x.crash()
		is(t, x.open(4), api.OK)
		is(t, x.take(p), api.ErrSeen)
		is(t, x.rotate(), api.OK)
		is(t, x.take(p), api.ErrSeen)
		x.crash(64)
		is(t, x.open(4), api.OK)
		is(t, x.take(p), api.ErrSeen)
		is(t, x.rotate(), api.OK)
		counts.Twice = 1
		x.takes(p)
		tells(t, x.m, counts, waits)
		is(t, x.take(p), api.ErrSeen)
	}
}

// TestWaitsTwice: a packet that waits still when its tag is there no more may be taken again, and then waits twice.
func TestWaitsTwice(t *testing.T) {
	x := opened(t, 40, 3)
	p := packet(1, on(3, 2))
	x.takes(p)
	for range 2 {
		is(t, x.rotate(), api.OK)
	}
	x.ticks(1)
	x.takes(p)
	tells(t, x.m, api.Counts{On: 2}, 2)
	x.ticks(3, p)
	x.ticks(4, p)
}

// TestFullSet: without room for one more tag what is new is refused, what was seen is told as seen, and what waits goes on.
func TestFullSet(t *testing.T) {
	for _, sectors := range []int{4, 6, 7, 12, 20} {
		x := opened(t, sectors, 10)
		room := sectors/2 - 1
		first := packet(0, on(0, 5))
		x.takes(first)
		for k := 1; k < room; k++ {
			x.takes(packet(k, drop()))
		}
		for k, h := range []api.Hop{on(1, 0), loop(id(1)), drop()} {
			is(t, x.take(packet(50+k, h)), api.ErrSpace)
		}
		is(t, x.take(first), api.ErrSeen)
		is(t, x.rotate(), api.ErrSpace)
		told(t, x.back(), nil)
		tells(t, x.m, api.Counts{On: 1, Drop: room - 1, Twice: 1, Bad: 3}, 1)
		x.ticks(6, first)
		is(t, x.open(10), api.OK)
		is(t, x.take(packet(50, on(1, 0))), api.ErrSpace)
		is(t, x.take(first), api.ErrSeen)
	}
}

// TestRoomAgain: a tag finds room once others are there no more.
func TestRoomAgain(t *testing.T) {
	x := opened(t, 12, 10)
	for k := range 12 {
		x.takes(packet(k, []api.Hop{on(k, 0), drop()}[k%2]))
		is(t, x.rotate(), api.OK)
	}
	x.takes(packet(0, on(0, 0)))
}

// TestGreatestDisk has room for 511 records.
func TestGreatestDisk(t *testing.T) {
	x := newPair(t, 1024)
	s, e := seen.Open(x.d, 4096)
	is(t, e, api.OK)
	q, e := seen.Open(x.pd, 4096)
	is(t, e, api.OK)
	for k := range 510 {
		is(t, s.Add(tag(k)), api.OK)
		is(t, q.Add(tag(k)), api.OK)
	}
	is(t, x.open(4096), api.OK)
	x.takes(packet(1, on(1, 1)))
	is(t, x.take(packet(2, on(1, 1))), api.ErrSpace)
	is(t, x.take(packet(3, loop(id(1)))), api.ErrSpace)
	is(t, x.take(packet(1, on(1, 1))), api.ErrSeen)
	tells(t, x.m, api.Counts{On: 1, Twice: 1, Bad: 2}, 1)
}

// TestLastGeneration: a log that cannot be compacted any more is told as it is.
func TestLastGeneration(t *testing.T) {
	for generation, want := range map[int]api.Errno{1<<31 - 2: api.OK, 1<<31 - 1: api.ErrLong} {
		x := newPair(t, 8)
		for _, d := range []*disk.Disk{x.d, x.pd} {
			is(t, d.Write(4, headOf(generation)), api.OK)
			is(t, d.Sync(), api.OK)
		}
		x.lays(recordE(1), recordE(2), recordE(3))
		is(t, x.open(4), api.OK)
		is(t, x.take(packet(1, on(2, 3))), want)
		if want != api.OK {
			tells(t, x.m, api.Counts{Bad: 1}, 0)
			is(t, x.rotate(), want)
		}
	}
}

// Promise 19.3.

// TestTickInAnyOrder: by their times, whatever order they were taken in; of the same time, in that order.
func TestTickInAnyOrder(t *testing.T) {
	var orders [][]int
	var order func(l, rest []int)
	order = func(l, rest []int) {
		if len(rest) == 0 {
			orders = append(orders, slices.Clone(l))
		}
		for i := range rest {
			order(append(slices.Clip(l), rest[i]), slices.Concat(rest[:i], rest[i+1:]))
		}
	}
	order(nil, []int{0, 1, 2, 3, 4})
	delays := []int{0, 5, 5, 70, 70}
	several(t, len(orders), func(t *testing.T, k int) {
		x := opened(t, 20, 8)
		var l []string
		for _, i := range orders[k] {
			l = append(l, packet(i, on(i, delays[i])))
			x.takes(l[len(l)-1])
		}
		slices.SortStableFunc(l, func(a, b string) int { return peeled(a).Hop.Delay - peeled(b).Hop.Delay })
		if k%2 == 0 {
			x.ticks(71, l...)
			return
		}
		x.ticks(1, l[0])
		x.ticks(5)
		x.ticks(6, l[1:3]...)
		x.ticks(70)
		x.ticks(71, l[3:]...)
	})
}

// TestOneTime: packets that were taken at several times, and go on at one.
func TestOneTime(t *testing.T) {
	for _, from := range []int{0, 60, 4090, 1<<39 - 3, maxTick - 7} {
		x := opened(t, 40, 8)
		var l []string
		for k := range 7 {
			x.ticks(from + k)
			if k == 3 {
				continue
			}
			for n := range 1 + k%2 {
				l = append(l, packet(10*k+n, on(k, 6-k)))
				x.takes(l[len(l)-1])
			}
		}
		x.ticks(from+7, l[:min(len(l), 8)]...)
	}
}

// TestTickRefuses: a time that is over, or none; nothing goes on then, and the time stays.
func TestTickRefuses(t *testing.T) {
	for _, now := range []int{0, 1, 2, 64, 1 << 20, maxTick - 5, maxTick - 1} {
		x := opened(t, 20, 4)
		x.ticks(now)
		p := packet(1, on(1, 0))
		x.takes(p)
		for _, to := range []int{now - 1, now - 2, now - 64, -1, -maxTick, math.MinInt, math.MinInt + 1, maxTick + 1, maxTick + 2, 1 << 41, math.MaxInt, math.MaxInt - 1} {
			want := api.ErrLate
			if to > now {
				want = api.ErrRange
			}
			l, e := x.tick(to)
			is(t, e, want)
			told(t, l, nil)
		}
		tells(t, x.m, api.Counts{On: 1}, 1)
		for range 3 {
			x.ticks(now)
		}
		x.ticks(now+1, p)
		for range 3 {
			x.ticks(now + 1)
		}
	}
	x := opened(t, 20, 4)
	x.ticks(maxTick)
	x.ticks(maxTick)
	for _, to := range []int{maxTick - 1, 0, -1} {
		_, e := x.tick(to)
		is(t, e, api.ErrLate)
	}
	_, e := x.tick(maxTick + 1)
	is(t, e, api.ErrRange)
}

// TestInAnySteps: each packet goes on once, at its time, whatever the steps are.
func TestInAnySteps(t *testing.T) {
	for _, step := range []int{1, 2, 3, 7, 10, 64, 100, 1 << 30} {
		x := opened(t, 40, 12)
		l := map[int][]string{}
		var in []string
		for k := range 12 {
			in = append(in, packet(k, on(k, k*k)))
			x.takes(in[k])
			l[k*k+1] = append(l[k*k+1], in[k])
		}
		for now := 0; now < 130; now += step {
			var due []string
			for at := now + 1; at <= min(now+step, 130); at++ {
				due = append(due, l[at]...)
			}
			x.ticks(now+step, due...)
		}
		tells(t, x.m, api.Counts{On: 12}, 0)
	}
}

// TestBack: the ids that came since it was asked last, in order, the same ones too.
func TestBack(t *testing.T) {
	x := opened(t, 60, 4)
	told(t, x.back(), nil)
	told(t, x.back(), nil)
	x.takes(packet(1, loop(id(1))))
	told(t, x.back(), []string{id(1)})
	told(t, x.back(), nil)
	x.takes(packet(2, loop(id(9))), packet(3, drop()), packet(4, loop(id(2))), packet(5, on(1, 1)), packet(6, loop(id(9))), packet(7, loop(zeros(16))))
	is(t, x.take(packet(2, loop(id(9)))), api.ErrSeen)
	is(t, x.take(packet(8, home(1, 1, id(8)))), api.ErrRoute)
	is(t, x.take(turned(packet(9, loop(id(10))), 300, 1)), api.ErrBody)
	x.tick(100)
	is(t, x.rotate(), api.OK)
	told(t, x.back(), []string{id(9), id(2), id(9), zeros(16)})
	told(t, x.back(), nil)
	tells(t, x.m, api.Counts{On: 1, Loop: 5, Drop: 1, Twice: 1, Bad: 2}, 0)
	x.takes(packet(9, loop(id(10))))
	is(t, x.open(4), api.OK)
	told(t, x.back(), nil)
}

// TestRotate: chapter 17's, and nothing else: what waits, came and was counted stays.
func TestRotate(t *testing.T) {
	x := opened(t, 40, 4)
	p, q := packet(1, on(1, 1)), packet(2, on(2, 9))
	x.takes(p, q, packet(3, loop(id(3))))
	x.ticks(1)
	for k := range 5 {
		is(t, x.rotate(), api.OK)
		tells(t, x.m, api.Counts{On: 2, Loop: 1}, 2)
		s, e := seen.Open(x.d, 4096)
		is(t, e, api.OK)
		if s.Epoch() != k+1 {
			t.Fatalf("the epoch %d", s.Epoch())
		}
	}
	x.ticks(2, p)
	x.ticks(10, q)
	told(t, x.back(), []string{id(3)})
	x.takes(p)
	x.ticks(12, p)
}

func TestRotateRefuses(t *testing.T) {
	x := newPair(t, 12)
	x.lays(recordE(1<<31-2), tagOf(packet(1, drop())))
	is(t, x.open(4), api.OK)
	x.takes(packet(2, on(1, 0)))
	is(t, x.rotate(), api.OK)
	is(t, x.take(packet(1, drop())), api.ErrSeen)
	is(t, x.rotate(), api.ErrRange)
	is(t, x.take(packet(2, on(1, 0))), api.ErrSeen)
	tells(t, x.m, api.Counts{On: 1, Twice: 2}, 1)
	quiet(t, x.d, func() { is(t, x.m.Rotate(), api.ErrRange) })
	for _, x := range []struct {
		records []string
		many    int // writes and syncs
	}{{nil, 2}, {[]string{recordE(1), recordE(2), recordE(3), recordE(4), recordE(5)}, 6}} {
		for n := 1; n <= x.many+1; n++ {
			d := newDisk(t, 12)
			lay(t, d, x.records...)
			m := begun(t, private(0), d, 4)
			is(t, d.Fuse(n), api.OK)
			e := m.Rotate()
			tells(t, m, api.Counts{}, 0)
			if n > x.many {
				is(t, e, api.OK)
				break
			}
			is(t, e, api.ErrDown)
		}
	}
}
