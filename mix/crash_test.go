package mix_test

import (
	"math/rand"
	"slices"
	"strings"
	"sync"
	"testing"

	"dovecote/api"
	"dovecote/disk"
	"dovecote/mix"
	"dovecote/seen"
)

// Promise 19.4.

// numbered is the packet of that number: most of them go on.
func numbered(n int) string {
	switch n % 5 {
	case 3:
		return packet(n, loop(id(n)))
	case 4:
		return packet(n, drop())
	}
	return packet(n, on(n%32, n%7))
}

// taken is a packet's number, and the epoch in which it was taken.
type taken struct{ n, epoch int }

// plainTags is what the chapter's words tell of tags. It is not changed: what befalls it makes another one.
type plainTags struct {
	epoch int
	ever  []taken
}

func (p plainTags) with(n int) plainTags {
	return plainTags{p.epoch, append(slices.Clone(p.ever), taken{n, p.epoch})}
}

func (p plainTags) in(epoch int) plainTags { return plainTags{epoch, p.ever} }

// there is the packets that must be refused, in the order in which they were taken.
func (p plainTags) there() (l []int) {
	for _, x := range p.ever {
		if x.epoch >= p.epoch-1 {
			l = append(l, x.n)
		}
	}
	return l
}

func (p plainTags) has(n int) bool { return slices.Contains(p.there(), n) }

// lie tells whether a set has these tags and no other, in this epoch.
func (p plainTags) lie(s *seen.Set) bool {
	var l []string
	for _, n := range p.there() {
		l = append(l, peeled(numbered(n)).Tag)
	}
	return s.Epoch() == p.epoch && slices.Equal(s.Tags(), l)
}

// step is one call on a node.
type step struct {
	kind string // take, tick, rotate or open
	n    int    // the packet's number, or by how many ticks
}

// story is a node, and what must be there behind a crash.
type story struct {
	t     *testing.T
	d     *disk.Disk
	m     *mix.Mix
	now   int
	waits []waiting // of the same time: as they were taken
	was   plainTags // behind all calls that answered OK
	under plainTags // behind the call under way, too
}

// begins is a story of a node on a disk that has such tags.
func begins(t *testing.T, d *disk.Disk, was plainTags) *story {
	t.Helper()
	return &story{t: t, d: d, m: begun(t, private(0), d, 64), was: was, under: was}
}

// one plays a call, and tells whether it was not refused by a disk that is down.
func (s *story) one(x step) bool {
	s.t.Helper()
	e := api.OK
	switch x.kind {
	case "take":
		e = s.take(x.n)
	case "tick":
		s.tick(s.now + x.n)
	case "rotate":
		s.under = s.was.in(s.was.epoch + 1)
		e = s.m.Rotate()
	case "open":
		s.under = s.was
		s.m, e = mix.New(private(0), s.d, 64)
		s.now, s.waits = 0, nil
	}
	switch e {
	case api.OK:
		s.was = s.under
		if s.d.Waits() != 0 {
			s.t.Fatalf("%v: something waits on the disk", x)
		}
	case api.ErrSpace:
		s.under = s.was
	case api.ErrDown:
		return false
	default:
		s.t.Fatalf("%v: error %d", x, e)
	}
	return true
}

// take fails unless just what was taken within two epochs is refused as seen.
func (s *story) take(n int) api.Errno {
	s.t.Helper()
	waits, e := s.m.Waits(), s.m.Take(numbered(n))
	if s.was.has(n) {
		is(s.t, e, api.ErrSeen)
		s.under = s.was
		return api.OK
	}
	s.under = s.was.with(n)
	if h := peeled(numbered(n)).Hop; h.Kind == api.HOn && e == api.OK {
		s.waits = append(s.waits, waiting{s.now + 1 + h.Delay, goes(numbered(n))})
		waits++
	}
	if s.m.Waits() != waits {
		s.t.Fatalf("Take of %d, error %d: %d wait; want %d", n, e, s.m.Waits(), waits)
	}
	return e
}

// tick goes on tick by tick: what was taken goes on just its delay and one behind.
func (s *story) tick(to int) {
	s.t.Helper()
	for ; s.now < to; s.now++ {
		var due []api.Out
		s.waits = slices.DeleteFunc(s.waits, func(w waiting) bool {
			if w.at == s.now+1 {
				due = append(due, w.out)
			}
			return w.at == s.now+1
		})
		goesOn(s.t, s.m, s.now+1, due...)
	}
}

// does plays calls, up to the first at which the disk is down.
func (s *story) does(steps []step) {
	s.t.Helper()
	for _, x := range steps {
		if !s.one(x) {
			return
		}
	}
}

// lasts fails unless a node that is opened behind a crash is what the promise says, and goes on from there. The packets are such as it is asked for.
func (s *story) lasts(picks []int, packets ...int) (behind string) {
	s.t.Helper()
	is(s.t, s.d.Crash(picks...), api.OK)
	set, e := seen.Open(s.d, 4096)
	is(s.t, e, api.OK)
	was, behind := s.was, "as behind all calls"
	if !s.was.lie(set) {
		was, behind = s.under, "with the call under way"
	}
	if !was.lie(set) {
		s.t.Fatalf("picks %v: the epoch %d and %d tags; there was %v; with the call under way %v", picks, set.Epoch(), len(set.Tags()), s.was, s.under)
	}
	now := begins(s.t, s.d, was)
	isNew(s.t, now.m)
	for _, n := range packets {
		now.one(step{"take", n})
	}
	now.tick(9)
	if len(now.waits) > 0 || now.m.Waits() > 0 {
		s.t.Fatal("something waits still")
	}
	is(s.t, s.d.Crash(picks...), api.OK)
	set, e = seen.Open(s.d, 4096)
	is(s.t, e, api.OK)
	if !now.was.lie(set) {
		s.t.Fatalf("behind another crash the epoch %d and %d tags; want %v", set.Epoch(), len(set.Tags()), now.was)
	}
	return behind
}

// manyPicks is picks of all kinds for so many writes that wait.
func manyPicks(by *rand.Rand, waits int) (l [][]int) {
	if waits == 0 {
		return [][]int{nil}
	}
	for _, p := range []int{0, 1, 3, 18, 34, 35, 36, 64, 66} {
		l = append(l, slices.Repeat([]int{p}, waits))
	}
	for i := range waits { // one alone; all but one; a beginning, its last one torn
		one, but := make([]int, waits), slices.Repeat([]int{64}, waits)
		one[i], but[i] = 64, 0
		l = append(l, one, but, append(slices.Repeat([]int{64}, i), 1+by.Intn(63)))
	}
	return append(l, drawnPicks(by, waits), drawnPicks(by, waits))
}

func drawnPicks(by *rand.Rand, waits int) []int {
	l := make([]int, by.Intn(waits+3))
	for i := range l {
		l[i] = []int{0, 64, by.Intn(65), by.Intn(1 << 20)}[by.Intn(4)]
	}
	return l
}

// copied is a disk with these sectors, on which nothing waits.
func copied(t *testing.T, sectors []string) *disk.Disk {
	t.Helper()
	d := newDisk(t, len(sectors))
	for i, s := range sectors {
		is(t, d.Write(i, s), api.OK)
	}
	is(t, d.Sync(), api.OK)
	return d
}

// stories is calls that are played behind one another, on disks with room for five and for six records.
func stories() [][]step {
	take := func(l ...int) (steps []step) {
		for _, n := range l {
			steps = append(steps, step{"take", n})
		}
		return steps
	}
	rotate, open, tick := []step{{"rotate", 0}}, []step{{"open", 0}}, []step{{"tick", 3}}
	return [][]step{
		take(0, 3, 4, 1, 0),
		slices.Concat(take(0), tick, take(0), rotate, take(0, 1), tick, rotate, take(0, 1), tick, rotate, take(1)),
		slices.Concat(rotate, rotate, rotate, rotate, rotate, take(1), rotate, rotate, take(1)),
		slices.Concat(take(2), rotate, rotate, take(2), rotate, rotate, take(2), tick, take(3), rotate, take(2)),
		slices.Concat(take(5), open, take(5), rotate, open, take(5, 6), rotate, open, take(5)),
		slices.Concat(take(7, 8), tick, rotate, take(9), rotate, take(7), tick, rotate, take(8, 9), rotate, take(9)),
	}
}

// TestBehindCrashes: a fuse at each write and sync on the way of each call, with picks of all kinds.
func TestBehindCrashes(t *testing.T) {
	t.Parallel()
	var lock sync.Mutex
	behind := map[string]int{}
	several(t, 2*len(stories()), func(t *testing.T, k int) {
		by := rand.New(rand.NewSource(int64(k)))
		s := begins(t, newDisk(t, []int{12, 15}[k%2]), plainTags{})
		for _, x := range stories()[k/2] {
			image, was := read(t, s.d), s.was
			for n, through := 1, false; !through; n++ {
				play := func() *story {
					s := begins(t, copied(t, image), was)
					is(t, s.d.Fuse(n), api.OK)
					through = s.one(x)
					return s
				}
				first := play()
				for i, picks := range manyPicks(by, first.d.Waits()) {
					s := first
					if i > 0 {
						s = play()
					}
					asked := []int{x.n, 50 + i%5}
					if len(was.ever) > 0 {
						asked = append(asked, was.ever[i%len(was.ever)].n)
					}
					how := x.kind + ", " + s.lasts(picks, asked...)
					lock.Lock()
					behind[how]++
					lock.Unlock()
				}
			}
			s.one(x)
		}
	})
	for _, how := range []string{"take, as behind all calls", "take, with the call under way", "rotate, as behind all calls", "rotate, with the call under way", "open, as behind all calls"} {
		if behind[how] < 6 {
			t.Errorf("behind crashes there were %v", behind)
		}
	}
}

// TestCrashesOfNew: what a crash left is opened, a fuse at each write and sync on the way, and crashes again.
func TestCrashesOfNew(t *testing.T) {
	t.Parallel()
	var lock sync.Mutex
	torn := 0
	several(t, 60, func(t *testing.T, k int) {
		by := rand.New(rand.NewSource(int64(k)))
		s := begins(t, newDisk(t, 12), plainTags{})
		steps := stories()[k%len(stories())]
		is(t, s.d.Fuse(2+k/len(stories())*2), api.OK)
		s.does(steps)
		is(t, s.d.Crash(1+by.Intn(34)), api.OK) // a record torn
		image := read(t, s.d)
		for n := 1; ; n++ {
			open := func() (*disk.Disk, api.Errno) {
				d := copied(t, image)
				is(t, d.Fuse(n), api.OK)
				_, e := mix.New(private(0), d, 64)
				return d, e
			}
			d, e := open()
			if e == api.OK {
				break
			}
			is(t, e, api.ErrDown)
			for _, picks := range [][]int{nil, {40}, slices.Repeat([]int{64}, d.Waits()), drawnPicks(by, d.Waits())} {
				d, _ := open()
				(&story{t: t, d: d, was: s.was, under: s.under}).lasts(picks, steps[0].n)
				lock.Lock()
				torn++
				lock.Unlock()
			}
		}
	})
	if torn < 20 {
		t.Errorf("only %d crashes were in New", torn)
	}
}

// TestDrawnStories: crashes behind one another, each behind some calls, whatever is picked: no packet is taken twice within two epochs, and each goes on at its time.
func TestDrawnStories(t *testing.T) {
	t.Parallel()
	var lock sync.Mutex
	behind := map[string]int{}
	several(t, 240, func(t *testing.T, k int) {
		by := rand.New(rand.NewSource(int64(k)))
		s := begins(t, newDisk(t, 8+by.Intn(24)), plainTags{})
		for range 6 {
			is(t, s.d.Fuse(by.Intn(14)), api.OK)
			var steps []step
			for range by.Intn(9) {
				kind := []string{"take", "take", "take", "tick", "rotate", "rotate", "open"}[by.Intn(7)]
				steps = append(steps, step{kind, by.Intn(8)})
			}
			s.does(steps)
			picks := drawnPicks(by, s.d.Waits())
			how := s.lasts(picks)
			lock.Lock()
			behind[how]++
			lock.Unlock()
			if how != "as behind all calls" {
				s.was = s.under
			}
			s = begins(t, s.d, s.was)
		}
	})
	if behind["as behind all calls"] < 300 || behind["with the call under way"] < 50 {
		t.Errorf("behind crashes there were %v", behind)
	}
}

// TestSafeAheadOfWaiting: at no write or sync of a Take that is refused does the packet wait, or go on; and none that waits is taken behind a crash without a pick.
func TestSafeAheadOfWaiting(t *testing.T) {
	for n := 1; n < 3; n++ {
		d := newDisk(t, 20)
		m := begun(t, private(0), d, 4)
		is(t, d.Fuse(n), api.OK)
		is(t, m.Take(numbered(1)), api.ErrDown)
		goesOn(t, m, maxTick)
		is(t, d.Crash(), api.OK)
		m = begun(t, private(0), d, 4)
		for k := range 3 {
			is(t, m.Take(numbered(k)), api.OK)
			if d.Waits() != 0 {
				t.Fatal("something waits on the disk")
			}
		}
		goesOn(t, m, 2, goes(numbered(0)), goes(numbered(1)))
		is(t, d.Crash(), api.OK)
		m = begun(t, private(0), d, 4)
		for range 2 {
			for k := range 3 {
				is(t, m.Take(numbered(k)), api.ErrSeen)
			}
			is(t, m.Rotate(), api.OK)
		}
		tells(t, m, api.Counts{Twice: 6}, 0)
		goesOn(t, m, maxTick)
	}
}

// TestAnyPick: of a Take that is cut off at its sync, a pick of each number of bytes leaves the packet seen, or as if it never came.
func TestAnyPick(t *testing.T) {
	p := numbered(1)
	wasSeen := 0
	for pick := range 65 {
		d := newDisk(t, 8)
		m := begun(t, private(0), d, 4)
		is(t, d.Fuse(2), api.OK)
		is(t, m.Take(p), api.ErrDown)
		is(t, d.Crash(pick), api.OK)
		m = begun(t, private(0), d, 4)
		switch e := m.Take(p); {
		case e == api.ErrSeen && pick >= 35: // a record's length, mark, letter and tag
			wasSeen++
			tells(t, m, api.Counts{Twice: 1}, 0)
		case e == api.OK && pick < 35:
			goesOn(t, m, 1)
			goesOn(t, m, 2, goes(p))
			is(t, m.Take(p), api.ErrSeen)
		default:
			t.Fatalf("the pick %d: error %d", pick, e)
		}
	}
	if wasSeen != 30 {
		t.Fatalf("it was seen %d times", wasSeen)
	}
}

// TestOpenedAnew: an empty pool, the time 0, no counts, no loops; and all tags.
func TestOpenedAnew(t *testing.T) {
	for _, crashed := range []bool{false, true} {
		x := opened(t, 40, 3)
		var l []string
		for n := range 5 {
			l = append(l, numbered(n))
		}
		x.takes(l...)
		x.ticks(1, l[0])
		is(t, x.take(strings.Repeat("x", 504)), api.ErrMac)
		if crashed {
			x.crash(64, 64, 3)
		}
		is(t, x.open(3), api.OK)
		isNew(t, x.m)
		for n, p := range l {
			is(t, x.take(p), api.ErrSeen)
			tells(t, x.m, api.Counts{Twice: n + 1}, 0)
		}
		x.takes(numbered(5), numbered(6), numbered(7))
		is(t, x.take(numbered(10)), api.ErrPool)
		x.ticks(maxTick, numbered(7), numbered(5), numbered(6))
		told(t, x.back(), nil)
	}
}

// TestOpenedWithAnotherKey: the tags are those of the disk, whoever opens it.
func TestOpenedWithAnotherKey(t *testing.T) {
	x := opened(t, 40, 3)
	p, q := packet(1, on(1, 0)), packets(making{1, 1, on(1, 0)})
	x.takes(p)
	is(t, x.openBy(private(1), 3), api.OK)
	is(t, x.take(p), api.ErrMac)
	x.takes(q)
	is(t, x.openBy(private(0), 3), api.OK)
	is(t, x.take(p), api.ErrSeen)
	is(t, x.take(q), api.ErrMac)
	holds(t, x.d, recordT(peeled(p).Tag), recordT(peels([2]string{private(1), q}).Tag))
}
