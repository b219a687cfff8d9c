package host_test

import (
	"fmt"
	"math/rand"
	"slices"
	"strings"
	"sync"
	"testing"

	"dovecote/api"
	"dovecote/disk"
	"dovecote/host"
	"dovecote/seen"
)

// What is there behind a crash: the end of 21.3, and 21.4.

// numbered is the packet of that number: most of them are home, at one of two users; few ids are theirs, so that some are there already.
func numbered(n int) string {
	switch n % 8 {
	case 5:
		return packet(n, on(n, n%7))
	case 6:
		return packet(n, loop(id(n)))
	case 7:
		return packet(n, drop())
	}
	return letter(n, 1+n%2, id(n%10), strings.Repeat("x", []int{0, 1, 28, 29, 60}[n%5]))
}

// state is what is on the disks of a host: its epoch, the packets that were taken with their epochs, the entries. It is not changed: what befalls it makes another one.
type state struct {
	epoch   int
	taken   [][2]int
	entries plainEntries
}

func (s state) with(n int) state {
	s.taken = append(slices.Clone(s.taken), [2]int{n, s.epoch})
	return s
}

func (s state) put(user int, id, text string) state {
	s.entries = s.entries.with(user, id, text)
	return s
}

func (s state) without(user int, id string) state {
	s.entries = s.entries.without(user, id)
	return s
}

func (s state) next() state {
	s.epoch++
	return s
}

// tags are those that are there.
func (s state) tags() (l []string) {
	for _, x := range s.taken {
		if x[1] >= s.epoch-1 {
			l = append(l, peeled(numbered(x[0])).Tag)
		}
	}
	return l
}

func (s state) has(n int) bool { return slices.Contains(s.tags(), peeled(numbered(n)).Tag) }

// lies tells whether it is what is on disks.
func (s state) lies(t *testing.T, d disks) bool {
	t.Helper()
	set, e := seen.Open(d.tags, 4096)
	is(t, e, api.OK)
	b, e := openBoxes(d.boxes, 4)
	is(t, e, api.OK)
	return set.Epoch() == s.epoch && slices.Equal(set.Tags(), s.tags()) && slices.Equal(b.short(), s.entries.short())
}

// step is one call on a host.
type step struct {
	kind string // take, ack, pull, rotate, open
	n    int    // the packet's number, or the user
	ids  []int
}

// story is a host, and what must be there behind a crash.
type story struct {
	t     *testing.T
	d     disks
	h     *host.Host
	seq   int
	was   state   // behind all calls that answered OK
	under []state // with a beginning of what the call under way writes
}

const storyQuota = 4

// begins is a story of a host on disks that have such a state.
func begins(t *testing.T, d disks, was state) *story {
	t.Helper()
	s := &story{t: t, d: d, was: was}
	is(t, s.open(), api.OK)
	return s
}

func (s *story) open() (e api.Errno) {
	s.h, e = host.New(private(0), s.d.tags, s.d.boxes, accounts(1, 2, 3), 64, storyQuota)
	s.seq = 0
	return e
}

// one plays a call, and tells whether it was not refused by a disk that is down.
func (s *story) one(x step) bool {
	s.t.Helper()
	s.under = nil
	e := api.OK
	switch x.kind {
	case "take":
		e = s.take(x.n)
	case "ack":
		e = s.ack(x.n, x.ids...)
	case "pull":
		s.pull(x.n)
	case "rotate":
		s.under = []state{s.was.next()}
		e = s.h.Rotate()
	case "open":
		e = s.open()
	}
	switch e {
	case api.OK:
		if len(s.under) > 0 {
			s.was = s.under[len(s.under)-1]
		}
		if s.d.tags.Waits() != 0 || s.d.boxes.Waits() != 0 {
			s.t.Fatalf("%v: something waits on the disks", x)
		}
		s.under = nil
		return true
	case api.ErrSpace:
		s.under = nil
		return true
	case api.ErrDown:
		return false
	}
	s.t.Fatalf("%v: error %d", x, e)
	return false
}

// take fails unless just what was taken within two epochs is refused as seen. What a box refuses was seen.
func (s *story) take(n int) api.Errno {
	s.t.Helper()
	r, e := s.h.Take(carries(numbered(n)))
	if r != "" {
		s.t.Fatalf("there is a reply: %q", r)
	}
	if s.was.has(n) {
		is(s.t, e, api.ErrSeen)
		return api.OK
	}
	p := peeled(numbered(n))
	s.under = []state{s.was.with(n)}
	if p.Hop.Kind != api.HHome {
		return e
	}
	switch {
	case e == api.ErrDown:
		s.under = append(s.under, s.was.with(n).put(p.Hop.User, p.Hop.Id, p.Text))
		return e
	case e == api.ErrSpace: // of which disk, tells the packet once more
		if _, again := s.h.Take(carries(numbered(n))); again == api.ErrSeen {
			s.was = s.was.with(n)
		}
		return e
	case s.was.entries.has(p.Hop.User, p.Hop.Id):
		is(s.t, e, api.ErrThere)
		return api.OK
	case len(s.was.entries.of(p.Hop.User)) >= storyQuota:
		is(s.t, e, api.ErrFull)
		return api.OK
	}
	s.under = []state{s.was.with(n).put(p.Hop.User, p.Hop.Id, p.Text)}
	return e
}

func (s *story) ack(user int, l ...int) api.Errno {
	s.t.Helper()
	var named []string
	will := s.was
	for _, k := range l {
		named = append(named, id(k))
		if will.entries.has(user, id(k)) {
			will = will.without(user, id(k))
			s.under = append(s.under, will)
		}
	}
	s.seq++
	r, e := s.h.Take(ack(user, s.seq, named...))
	if r != "" {
		s.t.Fatalf("there is a reply: %q", r)
	}
	return e
}

// pull fails unless the reply tells the first entries that are there.
func (s *story) pull(user int) {
	s.t.Helper()
	s.seq++
	l := s.was.entries.of(user)
	if s.h.Len(user) != len(l) {
		s.t.Fatalf("Len(%d): %d; want %d", user, s.h.Len(user), len(l))
	}
	pulls(s.t, s.h, user, s.seq, l[:min(len(l), 4)]...)
}

// does plays calls, up to the first at which a disk is down.
func (s *story) does(steps []step) {
	s.t.Helper()
	for _, x := range steps {
		if !s.one(x) {
			return
		}
	}
}

// crash has the same picks for both disks: mostly nothing waits on one of them.
func (s *story) crash(picks []int) {
	s.t.Helper()
	is(s.t, s.d.tags.Crash(picks...), api.OK)
	is(s.t, s.d.boxes.Crash(picks...), api.OK)
}

// lasts fails unless a host that is opened behind a crash is what the chapter says, and goes on from there.
func (s *story) lasts(picks []int, steps ...step) (behind string) {
	s.t.Helper()
	s.crash(picks)
	all, at := append([]state{s.was}, s.under...), -1
	for k, x := range all {
		if x.lies(s.t, s.d) {
			at = k
			break
		}
	}
	if at < 0 {
		s.t.Fatalf("picks %v: there is none of %v", picks, all)
	}
	now := begins(s.t, s.d, all[at])
	isNew(s.t, now.h)
	for user := 1; user < 4; user++ {
		now.pull(user)
	}
	now.does(append(steps, step{"pull", 1, nil}, step{"ack", 1, []int{0, 1, 2}}, step{"pull", 1, nil}, step{"pull", 2, nil}))
	now.crash(picks)
	if !now.was.lies(s.t, s.d) {
		s.t.Fatalf("behind another crash there is not %v", now.was)
	}
	s.was = now.was
	switch {
	case len(all) == 1:
		return "nothing under way"
	case at == 0:
		return "nothing of it"
	case at < len(all)-1:
		return "a part of it"
	}
	return "all of it"
}

// manyPicks is picks of all kinds for so many writes that wait.
func manyPicks(by *rand.Rand, waits int) (l [][]int) {
	if waits == 0 {
		return [][]int{nil}
	}
	for _, p := range []int{0, 1, 18, 35, 36, 64} {
		l = append(l, slices.Repeat([]int{p}, waits))
	}
	for i := range waits { // one alone; all but one; a beginning, its last one torn
		one, but := make([]int, waits), slices.Repeat([]int{64}, waits)
		one[i], but[i] = 64, 0
		l = append(l, one, but, append(slices.Repeat([]int{64}, i), 1+by.Intn(63)))
	}
	return append(l, drawnPicks(by, waits))
}

func drawnPicks(by *rand.Rand, waits int) []int {
	l := make([]int, by.Intn(waits+3))
	for i := range l {
		l[i] = []int{0, 64, by.Intn(65), by.Intn(1 << 20)}[by.Intn(4)]
	}
	return l
}

// copied is disks with the same sectors, on which nothing waits.
func copied(t *testing.T, image [2][]string) disks {
	t.Helper()
	l := [2]*disk.Disk{}
	for k, sectors := range image {
		l[k] = newDisk(t, len(sectors))
		for i, s := range sectors {
			is(t, l[k].Write(i, s), api.OK)
		}
		is(t, l[k].Sync(), api.OK)
	}
	return disks{l[0], l[1]}
}

func images(t *testing.T, d disks) [2][]string {
	t.Helper()
	return [2][]string{read(t, d.tags), read(t, d.boxes)}
}

// fuse sets a fuse of the one disk, or of the other one.
func (d disks) fuse(t *testing.T, which, n int) {
	t.Helper()
	is(t, []*disk.Disk{d.tags, d.boxes}[which].Fuse(n), api.OK)
}

// stories is calls that are played behind one another, on disks with room for five and for six sectors.
func stories() [][]step {
	take := func(l ...int) (steps []step) {
		for _, n := range l {
			steps = append(steps, step{"take", n, nil})
		}
		return steps
	}
	acks := func(user int, l ...int) []step { return []step{{"ack", user, l}} }
	rotate, open := []step{{"rotate", 0, nil}}, []step{{"open", 0, nil}}
	return [][]step{
		slices.Concat(take(0, 10, 0), acks(1, 0), rotate, rotate, take(0), acks(1, 0, 1)),
		slices.Concat(take(1, 11), acks(2, 1), take(11, 5), rotate, rotate, take(11, 1)),
		slices.Concat(take(0, 2), rotate, take(4), acks(1, 4, 0, 2), rotate, take(12, 20), open, acks(1, 2, 2, 9)),
		slices.Concat(take(0, 4, 8), rotate, rotate, take(10, 2, 18), acks(1, 8), take(6, 7), acks(1, 0, 8, 4)),
		slices.Concat(rotate, rotate, rotate, rotate, rotate, take(3), rotate, take(13, 23), acks(2, 3)),
		slices.Concat(take(16), open, take(16), acks(1, 6), rotate, open, take(26), rotate, take(16), acks(1, 6), take(36)),
	}
}

// TestBehindCrashes: a fuse at each write and sync of each of the disks on the way of each call, with picks of all kinds.
func TestBehindCrashes(t *testing.T) {
	t.Parallel()
	var lock sync.Mutex
	behind := map[string]int{}
	several(t, 4*len(stories()), func(t *testing.T, k int) {
		by, which := rand.New(rand.NewSource(int64(k))), k/2%2
		s := begins(t, newDisks(t, []int{12, 15}[k%2], []int{12, 15}[k%2]), state{})
		for _, x := range stories()[k/4] {
			image, was := images(t, s.d), s.was
			for n, through := 1, false; !through; n++ {
				play := func() *story {
					s := begins(t, copied(t, image), was)
					s.d.fuse(t, which, n)
					through = s.one(x)
					return s
				}
				first := play()
				for i, picks := range manyPicks(by, first.d.tags.Waits()+first.d.boxes.Waits()) {
					s := first
					if i > 0 {
						s = play()
					}
					how := x.kind + ", " + s.lasts(picks, step{"take", []int{0, 1, 5, 13}[i%4], nil}, x)
					lock.Lock()
					behind[how]++
					lock.Unlock()
				}
			}
			s.one(x)
		}
	})
	for _, how := range []string{"take, nothing of it", "take, a part of it", "take, all of it", "ack, nothing of it", "ack, a part of it", "ack, all of it", "rotate, nothing of it", "rotate, all of it", "open, nothing under way"} {
		if behind[how] < 6 {
			t.Errorf("behind crashes there were %v", behind)
		}
	}
}

// TestDrawnStories: crashes behind one another, each behind some calls, whatever is picked.
func TestDrawnStories(t *testing.T) {
	t.Parallel()
	var lock sync.Mutex
	behind := map[string]int{}
	several(t, 160, func(t *testing.T, k int) {
		by := rand.New(rand.NewSource(int64(k)))
		s := begins(t, newDisks(t, 8+by.Intn(24), 8+by.Intn(24)), state{})
		for range 6 {
			s.d.fuse(t, by.Intn(2), by.Intn(20))
			var steps []step
			for range by.Intn(10) {
				x := step{kind: []string{"take", "take", "take", "take", "ack", "ack", "pull", "rotate", "open"}[by.Intn(9)], n: 1 + by.Intn(3)}
				switch x.kind {
				case "take":
					x.n = by.Intn(24)
				case "ack":
					for range by.Intn(5) {
						x.ids = append(x.ids, by.Intn(10))
					}
				}
				steps = append(steps, x)
			}
			s.does(steps)
			how := s.lasts(drawnPicks(by, s.d.tags.Waits()+s.d.boxes.Waits()))
			lock.Lock()
			behind[how]++
			lock.Unlock()
			s = begins(t, s.d, s.was)
		}
	})
	for how, least := range map[string]int{"nothing under way": 100, "nothing of it": 30, "a part of it": 10, "all of it": 10} {
		if behind[how] < least {
			t.Errorf("behind crashes there were %v", behind)
		}
	}
}

// TestCrashesOfNew: what a crash left is opened, a fuse at each write and sync of each disk on the way, and crashes again.
func TestCrashesOfNew(t *testing.T) {
	t.Parallel()
	var lock sync.Mutex
	torn := 0
	several(t, 48, func(t *testing.T, k int) {
		by := rand.New(rand.NewSource(int64(k)))
		s := begins(t, newDisks(t, 12, 12), state{})
		steps := stories()[k%len(stories())]
		s.d.fuse(t, k/6%2, 2+k/12*2)
		s.does(steps)
		s.crash([]int{1 + by.Intn(34)}) // a record torn
		image := images(t, s.d)
		for which := range 2 {
			for n := 1; ; n++ {
				open := func() (disks, api.Errno) {
					d := copied(t, image)
					d.fuse(t, which, n)
					_, e := host.New(private(0), d.tags, d.boxes, nil, 64, 4)
					return d, e
				}
				d, e := open()
				if e == api.OK {
					break
				}
				is(t, e, api.ErrDown)
				for _, picks := range [][]int{nil, {40}, slices.Repeat([]int{64}, 12), drawnPicks(by, d.tags.Waits()+d.boxes.Waits())} {
					d, _ := open()
					(&story{t: t, d: d, was: s.was, under: s.under}).lasts(picks, steps[0])
					lock.Lock()
					torn++
					lock.Unlock()
				}
			}
		}
	})
	if torn < 20 {
		t.Errorf("only %d crashes were in New", torn)
	}
}

// TestAnyPick: of a packet home that is cut off at a sync, a pick of each number of bytes leaves it seen or not, in its box or not; never in its box and not seen.
func TestAnyPick(t *testing.T) {
	p := letter(1, 1, id(1), "hi")
	for pick := range 65 {
		for which := range 2 {
			d := newDisks(t, 8, 8)
			h, e := host.New(private(0), d.tags, d.boxes, accounts(1), 4, 4)
			is(t, e, api.OK)
			d.fuse(t, which, 2)
			taken(t, h, carries(p), api.ErrDown)
			tells(t, h, api.Counts{Bad: 1}, 0)
			is(t, d.tags.Crash(pick), api.OK)
			is(t, d.boxes.Crash(pick), api.OK)
			h, e = host.New(private(0), d.tags, d.boxes, accounts(1), 4, 4)
			is(t, e, api.OK)
			// a record's length and mark, and then its text: a tag's letter and the tag, or an entry's letter, user, id and text
			wasSeen, isThere := which == 1 || pick >= 35, which == 1 && pick >= 38
			var box []api.Slot
			if isThere {
				box = []api.Slot{{Id: id(1), Text: "hi"}}
			}
			pulls(t, h, 1, 1, box...)
			if wasSeen {
				taken(t, h, carries(p), api.ErrSeen)
				pulls(t, h, 1, 2, box...)
				continue
			}
			taken(t, h, carries(p), api.OK)
			taken(t, h, carries(p), api.ErrSeen)
			pulls(t, h, 1, 2, api.Slot{Id: id(1), Text: "hi"})
		}
	}
}

// TestOpenedAnew: an empty pool, the time 0, no counts, no loops, a gate that has admitted nothing; and all tags and entries.
func TestOpenedAnew(t *testing.T) {
	for _, crashed := range []bool{false, true} {
		x := opened(t, 60, 60, 2, 3, 1, 2)
		var l []string
		for n := range 8 {
			l = append(l, numbered(n))
		}
		x.comes(l...)
		x.ticks(3)
		x.takes(ack(1, 9, id(2)))
		x.shows(1, api.Slot{Id: id(0)}, api.Slot{Id: id(4), Text: strings.Repeat("x", 60)})
		x.takes(ack(2, greatest))
		x.refuses(api.ErrSeen, pull(2, greatest))
		x.bad(api.ErrAuth, letter(50, 3, id(3), ""))
		if crashed {
			x.crash([]int{64, 64, 3}, []int{64, 3})
		}
		is(t, x.open(2, 3, 1, 2, 3), api.OK)
		isNew(t, x.h)
		x.shows(1, api.Slot{Id: id(0)}, api.Slot{Id: id(4), Text: strings.Repeat("x", 60)})
		x.shows(2, api.Slot{Id: id(1), Text: "x"}, api.Slot{Id: id(3), Text: strings.Repeat("x", 29)})
		for n, p := range l {
			x.bad(api.ErrSeen, p)
			tells(t, x.h, api.Counts{Twice: n + 1}, 0)
		}
		x.comes(letter(50, 3, id(3), ""), numbered(13), numbered(21))
		x.bad(api.ErrPool, numbered(29))
		x.ticks(maxTick, numbered(21), numbered(13))
		told(t, x.back(), nil)
	}
}

// TestOpenedByAnother: tags and entries are those of the disks, whoever opens them, with whatever accounts, pool and quota.
func TestOpenedByAnother(t *testing.T) {
	x := opened(t, 40, 40, 3, 3, 1, 2)
	p, q := letter(1, 1, id(1), "one"), packets(making{1, 1, home(1, 0, id(2)), "two"})
	x.comes(p)
	is(t, x.openBy(private(1), []api.Account{{User: 1, Key: key(7)}}, 1, 2), api.OK)
	x.bad(api.ErrMac, p)
	x.comes(q)
	x.bad(api.ErrFull, packets(making{1, 2, home(1, 0, id(3)), "three"}))
	x.refuses(api.ErrAuth, pull(1, 1), pull(2, 1))
	r, e := x.take(pullBy(key(7), 1, 1))
	is(t, e, api.OK)
	if r != reply(1, 1, api.Slot{Id: id(1), Text: "one"}, api.Slot{Id: id(2), Text: "two"}) {
		t.Fatalf("the reply is %q", r)
	}
	is(t, x.open(3, 3, 2), api.OK)
	x.bad(api.ErrMac, q)
	x.refuses(api.ErrAuth, pull(1, 1), pullBy(key(7), 1, 2))
	x.bad(api.ErrAuth, p, letter(5, 1, id(5), ""))
	is(t, x.open(3, 3, 2, 1), api.OK)
	x.bad(api.ErrSeen, p)
	if x.h.Len(1) != 2 {
		t.Fatalf("there are %d entries", x.h.Len(1))
	}
}

// Promise 21.4.

// TestUntilItIsAcknowledged: entries that come, are told and are acknowledged in drawn order, hosts that crash between, each reply as long, against a list of what came.
func TestUntilItIsAcknowledged(t *testing.T) {
	t.Parallel()
	several(t, 24, func(t *testing.T, k int) {
		by := rand.New(rand.NewSource(int64(k)))
		d := newDisks(t, 400, 60)
		var h *host.Host
		seq, next := 0, 0
		var there [3][]api.Slot
		open := func() {
			var e api.Errno
			h, e = host.New(private(0), d.tags, d.boxes, accounts(0, 1, 2), 4, 7)
			is(t, e, api.OK)
			seq = 0
		}
		open()
		for range 120 {
			user := by.Intn(3)
			switch c := by.Intn(16); {
			case c < 6 && len(there[user]) < 7:
				s := api.Slot{Id: id(by.Intn(1 << 30)), Text: drawnText(by, []int{0, 1, by.Intn(223), 222}[by.Intn(4)])}
				_, e := h.Take(carries(made(1000*k+next, []string{point(0)}, s.Text, home(user, by.Intn(9), s.Id))))
				next++
				if e == api.ErrSpace { // there is much of others
					continue
				}
				is(t, e, api.OK)
				there[user] = append(there[user], s)
			case c < 12:
				seq++
				pulls(t, h, user, seq, there[user][:min(4, len(there[user]))]...)
				if r, _ := h.Take(pull(user, seq+1)); len(r) != 962 {
					t.Fatalf("the reply has %d bytes", len(r))
				}
				seq++
			case c < 15:
				var l []string
				for range by.Intn(5) {
					if n := len(there[user]); n > 0 {
						l = append(l, there[user][by.Intn(n)].Id)
					}
				}
				seq++
				taken(t, h, ack(user, seq, l...), api.OK)
				there[user] = slices.DeleteFunc(there[user], func(s api.Slot) bool { return slices.Contains(l, s.Id) })
			default:
				if by.Intn(2) == 0 {
					is(t, d.tags.Crash(), api.OK)
					is(t, d.boxes.Crash(), api.OK)
				}
				open()
			}
			for user, l := range there {
				if h.Len(user) != len(l) {
					t.Fatalf("Len(%d): %d; want %d", user, h.Len(user), len(l))
				}
			}
		}
	})
}

// TestRepliesAreAsLong, whatever is in the box, and however long its texts are.
func TestRepliesAreAsLong(t *testing.T) {
	for _, n := range []int{0, 1, 27, 28, 221, 222} {
		for many := range 7 {
			var records []string
			for k := range many {
				records = append(records, recordP(1, id(k), strings.Repeat("x", n)))
			}
			x := newPair(t, 20, 80)
			x.lays(nil, records)
			is(t, x.open(1, 1, 1, 2), api.OK)
			for user := 1; user < 3; user++ {
				r, e := x.take(pull(user, 1))
				is(t, e, api.OK)
				if len(r) != 962 {
					t.Fatal(fmt.Sprint(many, " entries of ", n, " bytes: a reply of ", len(r)))
				}
			}
		}
	}
}
