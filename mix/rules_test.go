package mix_test

import (
	"fmt"
	"math/rand"
	"slices"
	"strings"
	"sync"
	"testing"
	"unsafe"

	"dovecote/api"
	"dovecote/disk"
	"dovecote/mix"
)

// Mixtures.

// mixed is one of few packets of each kind, on and home, loop and drop.
func mixed(k int) string {
	tells := []api.Hop{on(1, 0), on(2, 1), loop(id(2)), on(3, 5), drop(), on(4, 4096), loop(id(2)), on(5, 1), home(3, 1, id(8)), on(6, 70), drop(), on(7, 0)}
	return packet(300+k, tells[k%len(tells)])
}

// drawnPacket is mostly one of few, so that packets come twice, now and then none, another's, or a turned one.
func drawnPacket(by *rand.Rand) string {
	switch k := by.Intn(40); {
	case k == 0:
		return drawnText(by, []int{0, 1, 247, 248, 503, 505, 1008}[by.Intn(7)])
	case k == 1:
		return zeros(504)
	case k == 2:
		return packets(making{1, 1, []api.Hop{on(1, 0), loop(id(1)), drop()}[by.Intn(3)]})
	case k == 3:
		return turned(mixed(by.Intn(12)), 32+by.Intn(216), byte(1+by.Intn(255)))
	case k == 4:
		return turned(mixed([]int{2, 4, 8, 10}[by.Intn(4)]), 248+by.Intn(256), byte(1+by.Intn(255)))
	case k < 10:
		return mixed(by.Intn(120))
	}
	return mixed(by.Intn(12))
}

// drawnTime is mostly a little later, now and then one that is over, or none.
func drawnTime(by *rand.Rand, now int) int {
	switch k := by.Intn(40); {
	case k == 0:
		return maxTick + 1 + by.Intn(3)
	case k < 4:
		return now - 1 - by.Intn(3)
	case k == 4:
		return now + by.Intn(5000)
	}
	return min(now+[]int{0, 1, 1, 1, 2, 3, 6, 64}[by.Intn(8)], maxTick)
}

func drawnPool(by *rand.Rand) int {
	if by.Intn(10) == 0 {
		return wrongPools()[by.Intn(len(wrongPools()))]
	}
	return []int{1, 2, 2, 3, 4, 8, 4096}[by.Intn(7)]
}

// plays one drawn call.
func (x *pair) plays(by *rand.Rand) (call string, e api.Errno) {
	x.t.Helper()
	if x.down && by.Intn(4) > 0 {
		x.crash(drawnPicks(by, x.d.Waits())...)
		return "crash", api.OK
	}
	if x.down || x.m == nil {
		return x.opens(by)
	}
	switch k := by.Intn(80); {
	case k < 40:
		return "take", x.take(drawnPacket(by))
	case k < 58:
		_, e := x.tick(drawnTime(by, x.p.now))
		return "tick", e
	case k < 62:
		x.back()
		return "back", api.OK
	case k < 70:
		return "rotate", x.rotate()
	case k < 73:
		x.fuse(by.Intn(24))
		return "fuse", api.OK
	case k < 77:
		x.crash(drawnPicks(by, x.d.Waits())...)
		return "crash", api.OK
	}
	return x.opens(by)
}

// opens a node, which is at a time near the last one now and then.
func (x *pair) opens(by *rand.Rand) (call string, e api.Errno) {
	x.t.Helper()
	private := private(0)
	if by.Intn(30) == 0 {
		private = wrongKeys()[by.Intn(len(wrongKeys()))]
	}
	e = x.openBy(private, drawnPool(by))
	if e == api.OK && by.Intn(4) == 0 {
		x.tick([]int{maxTick, maxTick - 1, maxTick - 2, maxTick - 71, maxTick - 4100}[by.Intn(5)])
	}
	return "open", e
}

// TestAsPlain: each answer, the counts, how many wait, the loops and each sector are those of a plain node.
func TestAsPlain(t *testing.T) {
	t.Parallel()
	var lock sync.Mutex
	said := map[string]map[api.Errno]int{"take": {}, "tick": {}, "back": {}, "rotate": {}, "open": {}, "fuse": {}, "crash": {}}
	several(t, 160, func(t *testing.T, k int) {
		by := rand.New(rand.NewSource(int64(k)))
		x := newPair(t, []int{4, 6, 8, 9, 11, 12, 13, 16, 20, 26, 33, 40, 64, 65}[k%14])
		x.backs = k%2 == 0
		for range 90 {
			call, e := x.plays(by)
			lock.Lock()
			said[call][e]++
			lock.Unlock()
		}
	})
	for call, want := range map[string][]api.Errno{
		"take":   {api.OK, api.ErrForm, api.ErrWeak, api.ErrMac, api.ErrBody, api.ErrRoute, api.ErrPool, api.ErrRange, api.ErrSeen, api.ErrSpace, api.ErrDown},
		"tick":   {api.OK, api.ErrLate, api.ErrRange},
		"rotate": {api.OK, api.ErrSpace, api.ErrDown},
		"open":   {api.OK, api.ErrForm, api.ErrRange, api.ErrDown},
	} {
		for _, e := range want {
			if said[call][e] < 10 {
				t.Errorf("%s told the error %d %d times: too few", call, e, said[call][e])
			}
		}
		if len(said[call]) != len(want) {
			t.Errorf("%s told %v", call, said[call])
		}
	}
}

// TestShortPlays: all plays of four calls of these, of which some need a node that there is, on disks with room for two and for three records, with pools of 1 and 2.
func TestShortPlays(t *testing.T) {
	t.Parallel()
	asks := func(call func(x *pair)) func(x *pair) {
		return func(x *pair) {
			if x.m != nil {
				call(x)
			}
		}
	}
	calls := []func(x *pair){
		asks(func(x *pair) { x.take(packet(1, on(1, 0))) }),
		asks(func(x *pair) { x.take(packet(2, on(2, 1))) }),
		asks(func(x *pair) { x.take(packet(3, loop(id(3)))) }),
		asks(func(x *pair) { x.tick(x.p.now + 1) }),
		asks(func(x *pair) { x.tick(x.p.now + 2) }),
		asks(func(x *pair) { x.rotate() }),
		func(x *pair) {
			if !x.down {
				x.fuse(4)
			}
		},
		func(x *pair) { x.crash(64, 23, 64); x.open(2) },
	}
	many := 1
	for range 4 {
		many *= len(calls)
	}
	several(t, many, func(t *testing.T, play int) {
		x := opened(t, 6+play/3%2*2, 1+play%2)
		x.backs = true
		for n, k := play, 0; k < 4; n, k = n/len(calls), k+1 {
			calls[n%len(calls)](x)
		}
	})
}

// Rules that hold everywhere.

// refusedCalls asks for what is refused, whatever the node has.
func (x *pair) refusedCalls(by *rand.Rand) {
	x.t.Helper()
	bad := []string{"", drawnText(by, 503), drawnText(by, 505), packet(400, home(1, 1, id(1))), turned(mixed(by.Intn(12)), 40, 1), turned(mixed(4), 300, 1)}
	for _, p := range bad {
		if x.m.Take(p) == api.OK {
			x.t.Fatal("it was taken")
		}
	}
	x.p.counts.Bad += len(bad)
	for to, want := range map[int]api.Errno{x.p.now - 1: api.ErrLate, -1: api.ErrLate, maxTick + 1: api.ErrRange} {
		l, e := x.m.Tick(to)
		is(x.t, e, want)
		told(x.t, l, nil)
	}
	refuses(x.t, private(0)[1:], x.d, 1, api.ErrForm)
	refuses(x.t, private(0), x.d, 0, api.ErrRange)
	refuses(x.t, private(0), nil, 1, api.ErrNone)
	x.looks()
}

// TestRefusedCallsChangeNothing plays the same calls with two nodes, one of them with refused ones between.
func TestRefusedCallsChangeNothing(t *testing.T) {
	t.Parallel()
	several(t, 16, func(t *testing.T, k int) {
		by := rand.New(rand.NewSource(int64(k)))
		size := 8 + by.Intn(20)
		calm, x := newPair(t, size), newPair(t, size)
		for range 40 {
			if x.m != nil {
				x.refusedCalls(by)
			}
			play := by.Int63()
			calm.plays(rand.New(rand.NewSource(play)))
			x.plays(rand.New(rand.NewSource(play)))
			if (calm.m == nil) != (x.m == nil) {
				t.Fatal("one has a node, the other none")
			}
			if x.m != nil {
				want, got := calm.m.Counts(), x.m.Counts()
				got.Bad, want.Bad = 0, 0
				told(t, []api.Counts{got}, []api.Counts{want})
				told(t, x.p.waits, calm.p.waits)
				told(t, x.p.loops, calm.p.loops)
			}
			if !x.down && !slices.Equal(read(t, x.d), read(t, calm.d)) {
				t.Fatal("the disks are not the same")
			}
		}
	})
}

// TestRefusedForNowChangesNothing: what found no room in a pool, or in the time that is left, is as if it never came, for all calls behind it.
func TestRefusedForNowChangesNothing(t *testing.T) {
	by := rand.New(rand.NewSource(3))
	for _, from := range []int{0, maxTick - 80} {
		calm, x := opened(t, 200, 2), opened(t, 200, 2)
		calm.tick(from)
		x.tick(from)
		refused := map[api.Errno]int{}
		for range 80 {
			p := mixed(by.Intn(36))
			e := x.take(p)
			if e == api.ErrPool || e == api.ErrRange {
				refused[e]++
			} else {
				is(t, calm.take(p), e)
			}
			to := min(x.p.now+by.Intn(4), maxTick)
			l, _ := x.tick(to)
			want, _ := calm.tick(to)
			told(t, l, want)
			told(t, x.p.loops, calm.p.loops)
			if !slices.Equal(read(t, x.d), read(t, calm.d)) {
				t.Fatal("the disks are not the same")
			}
		}
		if from == 0 && refused[api.ErrPool] < 5 || from > 0 && refused[api.ErrRange] < 5 {
			t.Errorf("from %d there were refused %v", from, refused)
		}
	}
}

// TestAnswersAreNew: lists that were answered are written over, their spare room too; the node, and what was answered beside, stay.
func TestAnswersAreNew(t *testing.T) {
	x := opened(t, 100, 20)
	now := 0
	var outs [][]api.Out
	var ids [][]string
	for k := range 6 {
		n := 10 * k
		x.takes(packet(n, on(1, 0)), packet(n+1, on(2, 1)), packet(n+2, on(3, 0)), packet(n+3, loop(id(n))), packet(n+4, loop(id(n+1))), packet(n+5, on(4, 2)))
		now++
		l, _ := x.tick(now)
		told(t, l[len(l)-2:], all(goes, packet(n, on(1, 0)), packet(n+2, on(3, 0))))
		back := x.back()
		told(t, back, []string{id(n), id(n + 1)})
		for i := range outs {
			told(t, outs[i], slices.Repeat([]api.Out{{Node: -1, Packet: "changed"}}, len(outs[i])))
			told(t, ids[i], slices.Repeat([]string{"changed"}, len(ids[i])))
		}
		l, back = l[:cap(l)], back[:cap(back)]
		for i := range l {
			l[i] = api.Out{Node: -1, Packet: "changed"}
		}
		for i := range back {
			back[i] = "changed"
		}
		outs, ids = append(outs, l), append(ids, back)
		x.looks()
	}
	x.tick(now + 1)
	x.tick(now + 2)
	told(t, x.back(), nil)
	tells(t, x.m, api.Counts{On: 24, Loop: 12}, 0)
}

// TestNothingIsShared: texts are written over once they were handed in or answered, as no program of the language could; the node and the disk have them still.
func TestNothingIsShared(t *testing.T) {
	spoil := func(s string) {
		b := unsafe.Slice(unsafe.StringData(s), len(s))
		for i := range b {
			b[i] = '?'
		}
	}
	d := newDisk(t, 60)
	key := fmt.Sprint(private(0))
	m := begun(t, key, d, 8)
	spoil(key)
	var l []string
	var want []api.Out
	var ids, tags []string
	for k := range 8 {
		p := []string{packet(k, on(k, 3)), packet(k, loop(id(k))), packet(k, drop())}[k%3]
		l, tags = append(l, p), append(tags, tagOf(p))
		if k%3 == 0 {
			want = append(want, goes(p))
		}
		if k%3 == 1 {
			ids = append(ids, id(k))
		}
		p = strings.Clone(p)
		is(t, m.Take(p), api.OK)
		spoil(p)
	}
	outs, e := m.Tick(4)
	is(t, e, api.OK)
	told(t, outs, want)
	back := m.Back()
	told(t, back, ids)
	for _, o := range outs {
		spoil(o.Packet)
	}
	for _, s := range back {
		spoil(s)
	}
	for _, p := range l {
		is(t, m.Take(p), api.ErrSeen)
	}
	told(t, m.Back(), nil)
	goesOn(t, m, maxTick)
	holds(t, d, tags...)
}

// TestCountsAreNew: what was answered does not go on.
func TestCountsAreNew(t *testing.T) {
	m := begun(t, private(0), newDisk(t, 20), 4)
	before := m.Counts()
	is(t, m.Take(packet(1, drop())), api.OK)
	after := m.Counts()
	before.On, after.Bad = 7, 9
	tells(t, m, api.Counts{Drop: 1}, 0)
	told(t, []api.Counts{before, after}, []api.Counts{{On: 7}, {Drop: 1, Bad: 9}})
}

// TestAsksChangeNothing: neither the node nor the disk.
func TestAsksChangeNothing(t *testing.T) {
	d := newDisk(t, 20)
	m := begun(t, private(0), d, 4)
	is(t, m.Take(packet(1, on(1, 3))), api.OK)
	is(t, m.Take(packet(2, loop(id(1)))), api.OK)
	quiet(t, d, func() {
		for range 10 {
			tells(t, m, api.Counts{On: 1, Loop: 1}, 1)
		}
		told(t, m.Back(), []string{id(1)})
		goesOn(t, m, 4, goes(packet(1, on(1, 3))))
	})
}

// TestNodeOfADiskThatWasDown: a node whose disk was down, or crashed, is not to be asked; its calls end all the same.
func TestNodeOfADiskThatWasDown(t *testing.T) {
	for n := range 12 {
		for _, crashed := range []bool{false, true} {
			d := newDisk(t, 10)
			m := begun(t, private(0), d, 2)
			is(t, d.Fuse(n), api.OK)
			for k := range 6 {
				m.Take(mixed(k))
				m.Rotate()
				if crashed {
					d.Crash(7, 64)
				}
				m.Tick(k)
				m.Back()
				m.Counts()
				m.Waits()
				m.Take(mixed(k))
				m.Take("")
				m.Tick(-k)
			}
			m.Tick(maxTick)
		}
	}
}

// TestNodesDoNotKnowOfOneAnother: neither of tags nor of pools, times, loops, counts, nor of what befalls disks.
func TestNodesDoNotKnowOfOneAnother(t *testing.T) {
	a, b := opened(t, 20, 1), opened(t, 20, 3)
	p, q, l := packet(1, on(1, 2)), packet(2, on(2, 0)), packet(3, loop(id(3)))
	a.takes(p, l)
	tells(t, b.m, api.Counts{}, 0)
	b.takes(p, q)
	is(t, a.take(q), api.ErrPool)
	told(t, b.back(), nil)
	a.ticks(1)
	b.ticks(0)
	b.takes(l)
	told(t, a.back(), []string{id(3)})
	told(t, b.back(), []string{id(3)})
	is(t, a.rotate(), api.OK)
	is(t, a.rotate(), api.OK)
	is(t, b.take(p), api.ErrSeen)
	a.ticks(3, p)
	a.takes(p)
	b.ticks(3, q, p)
	a.fuse(1)
	b.takes(packet(4, drop()))
	is(t, a.take(packet(4, drop())), api.ErrDown)
	is(t, b.take(packet(4, drop())), api.ErrSeen)
	a.crash()
	b.takes(packet(5, drop()))
	tells(t, b.m, api.Counts{On: 2, Loop: 1, Drop: 2, Twice: 2}, 0)
	by := rand.New(rand.NewSource(18))
	pairs := []*pair{newPair(t, 6), newPair(t, 12), newPair(t, 12)}
	for range 500 {
		pairs[by.Intn(len(pairs))].plays(by)
		for _, x := range pairs {
			x.looks()
		}
	}
}

// TestSameCallsTellTheSame, again and again, and at the same time.
func TestSameCallsTellTheSame(t *testing.T) {
	play := func() string {
		by := rand.New(rand.NewSource(4))
		d, _ := disk.New(20)
		m, _ := mix.New(private(0), d, 3)
		now := 0
		var said strings.Builder
		for range 150 {
			var e api.Errno
			var l []api.Out
			switch by.Intn(8) {
			case 0, 1:
				to := drawnTime(by, now)
				if l, e = m.Tick(to); e == api.OK {
					now = to
				}
			case 2:
				fmt.Fprintf(&said, "%x\n", m.Back())
			case 3:
				d.Fuse(by.Intn(9))
			case 4:
				e = m.Rotate()
			default:
				e = m.Take(drawnPacket(by))
			}
			if e == api.ErrDown {
				d.Crash(drawnPicks(by, d.Waits())...)
				m, e = mix.New(private(0), d, 3)
				now = 0
			}
			fmt.Fprintf(&said, "%d %v %d %x %d\n", e, m.Counts(), m.Waits(), l, d.Waits())
		}
		for i := range d.Size() {
			s, _ := d.Read(i)
			fmt.Fprintf(&said, "%x\n", s)
		}
		return said.String()
	}
	want := play()
	var everyone sync.WaitGroup
	said := make([]string, 8)
	for k := range said {
		everyone.Go(func() { said[k] = play() })
	}
	everyone.Wait()
	for _, s := range said {
		if s != want {
			t.Fatal("another answer")
		}
	}
}
