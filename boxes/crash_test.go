package boxes_test

import (
	"fmt"
	"math/rand"
	"slices"
	"testing"

	"dovecote/api"
	"dovecote/boxes"
	"dovecote/disk"
	"dovecote/log"
)

// Promise 18.4.

// step is one call on boxes.
type step struct {
	kind string // put, ack or open
	user int
	ids  []int
	long int // of a put's text
}

// records is what a call writes, by the chapter's words, if it is not refused.
func (x step) records(was plainEntries) (l []string) {
	switch x.kind {
	case "put":
		return []string{recordP(x.user, id(x.ids[0]), long(x.long))}
	case "ack":
		for _, k := range x.ids {
			if r := recordA(x.user, id(k)); was.has(x.user, id(k)) && !slices.Contains(l, r) {
				l = append(l, r)
			}
		}
	}
	return l
}

// story is boxes, and what must be there behind a crash.
type story struct {
	t     *testing.T
	d     *disk.Disk
	b     *boxes.Boxes
	was   plainEntries   // behind all calls that answered OK
	under []plainEntries // with a beginning of the records of the call under way: of one, of two, up to all
}

// begins is a story of boxes that are opened on a disk.
func begins(t *testing.T, d *disk.Disk) *story {
	t.Helper()
	b, e := boxes.Open(d, 4)
	is(t, e, api.OK)
	var was plainEntries
	for user := range 64 {
		l, e := b.First(user, 256)
		is(t, e, api.OK)
		for _, x := range l {
			was = was.with(user, x.Id, x.Text)
		}
	}
	l, e := log.Open(d)
	is(t, e, api.OK)
	if by, ok := (plainEntries{}).behind(l.Records()...); !ok || !by.same(was) {
		t.Fatalf("the records are %q, the boxes %v", l.Records(), was)
	}
	return &story{t: t, d: d, b: b, was: was}
}

// does plays calls, up to the first at which the disk is down.
func (s *story) does(steps []step) (through bool) {
	s.t.Helper()
	for _, x := range steps {
		switch e := s.one(x); e {
		case api.OK, api.ErrSpace, api.ErrThere, api.ErrFull:
		case api.ErrDown:
			return false
		default:
			s.t.Fatalf("%v: error %d", x, e)
		}
	}
	return true
}

func (s *story) one(x step) (e api.Errno) {
	s.t.Helper()
	s.under = nil
	records := x.records(s.was)
	for many := range records {
		if will, ok := s.was.behind(records[:many+1]...); ok {
			s.under = append(s.under, will)
		}
	}
	n := 0
	switch x.kind {
	case "open":
		s.b, e = boxes.Open(s.d, 4)
	case "put":
		e = s.b.Put(x.user, id(x.ids[0]), long(x.long))
	default:
		var given []string
		for _, k := range x.ids {
			given = append(given, id(k))
		}
		n, e = s.b.Ack(x.user, given...)
	}
	if x.kind == "ack" && e == api.OK && n != len(records) {
		s.t.Fatalf("%v: %d; want %d", x, n, len(records))
	}
	if e == api.OK && len(s.under) > 0 {
		s.was = s.under[len(s.under)-1]
	}
	if e != api.ErrDown {
		s.under = nil
	}
	return e
}

// lasts fails unless boxes that are opened behind a crash are what the promise says, and go on from there: what they answer OK to is there behind the next crash.
func (s *story) lasts(picks []int) (behind string) {
	s.t.Helper()
	is(s.t, s.d.Crash(picks...), api.OK)
	now := begins(s.t, s.d)
	began := slices.IndexFunc(s.under, now.was.same)
	if !now.was.same(s.was) && began < 0 {
		s.t.Fatalf("picks %v: the boxes have %v; there was %v; with the call under way %v", picks, now.was, s.was, s.under)
	}
	now.does([]step{{"put", 7, []int{50}, 3}, {"ack", 7, []int{50, 51}, 0}, {"put", 7, []int{51}, 3}})
	is(s.t, s.d.Crash(picks...), api.OK)
	then := begins(s.t, s.d)
	if !then.was.same(now.was) {
		s.t.Fatalf("the boxes have %v; want %v", then.was, now.was)
	}
	switch {
	case len(s.under) == 0:
		return "no call under way"
	case began < 0:
		return "nothing of it"
	case began < len(s.under)-1:
		return "a part of it"
	}
	return "all of it"
}

// manyPicks is picks of all kinds for so many writes that wait.
func manyPicks(by *rand.Rand, waits int) (l [][]int) {
	if waits == 0 {
		return [][]int{nil}
	}
	for _, p := range []int{0, 1, 2, 3, 8, 17, 18, 19, 20, 24, 35, 36, 37, 63, 64, 65, 66} {
		l = append(l, slices.Repeat([]int{p}, waits))
	}
	for i := range waits { // one alone; all but one; a beginning, its last one torn
		one, but := make([]int, waits), slices.Repeat([]int{64}, waits)
		one[i], but[i] = 64, 0
		torn := append(slices.Repeat([]int{64}, i), 1+by.Intn(63))
		l = append(l, one, but, but[:i], torn)
	}
	for range 10 {
		drawn := make([]int, waits)
		for i := range drawn {
			drawn[i] = []int{0, 64, by.Intn(65), by.Intn(1000)}[by.Intn(4)]
		}
		l = append(l, drawn)
	}
	return l
}

// stories is calls that are played behind one another, on disks with room for five to seven sectors of records.
func stories() map[string][]step {
	p := func(user, k, long int) step { return step{"put", user, []int{k}, long} }
	a := func(user int, ids ...int) step { return step{"ack", user, ids, 0} }
	open := step{kind: "open"}
	return map[string][]step{
		"puts":                      {p(1, 0, 0), p(2, 0, 20), p(1, 1, 28), p(63, 1, 0), p(0, 0, 3)},
		"long texts":                {p(1, 0, 222), a(1, 0), p(2, 0, 150), a(2, 0), p(1, 0, 100), p(1, 1, 40), a(1, 1, 0)},
		"acks of one":               {p(1, 0, 0), a(1, 0), p(1, 0, 1), a(1, 0), p(1, 0, 2), a(1, 0), p(1, 0, 3), a(1, 0)},
		"acks of two":               {p(1, 0, 0), p(1, 1, 0), a(1, 0, 1), p(1, 2, 0), p(1, 3, 0), a(1, 3, 2), p(1, 0, 0), p(1, 1, 0), a(1, 1, 0)},
		"acks of three":             {p(1, 0, 0), p(1, 1, 0), p(1, 2, 0), a(1, 0, 1, 2), p(1, 0, 0), p(1, 1, 0), p(1, 2, 0), a(1, 2, 0, 1), p(3, 0, 9)},
		"an ack of four":            {p(1, 0, 0), p(1, 1, 0), p(1, 2, 0), p(1, 3, 0), a(1, 0, 1, 2, 3), p(1, 0, 0)},
		"acks, others stay":         {p(2, 0, 0), p(1, 1, 0), p(1, 2, 0), a(1, 2, 1), p(1, 3, 0), a(1, 3), p(1, 4, 0), p(1, 5, 0), a(1, 4, 9, 5), a(2, 0)},
		"acks of none":              {p(1, 0, 0), a(1, 1), a(2, 0), a(1), p(1, 1, 0), a(1, 5, 1, 5, 1), p(1, 2, 0), a(2), p(1, 3, 0)},
		"full boxes":                {p(1, 0, 0), p(1, 1, 0), p(1, 2, 0), p(1, 3, 0), p(1, 4, 0), a(1, 1), p(1, 4, 0), p(1, 5, 0), a(1, 0), p(1, 5, 0)},
		"no room for the short log": {p(1, 0, 0), p(1, 1, 0), p(1, 2, 0), p(2, 0, 29), p(2, 1, 29), p(3, 0, 222), a(1, 0), p(2, 1, 29), p(4, 0, 0), a(2, 0, 1)},
		"the same id, many users":   {p(1, 0, 0), p(2, 0, 0), p(3, 0, 0), a(2, 0), p(4, 0, 0), a(1, 0), a(4, 0), p(2, 0, 0), a(3, 0), a(2, 0)},
		"opens":                     {p(1, 0, 0), open, p(1, 1, 0), open, a(1, 0, 1), open, p(2, 0, 40), open, p(2, 1, 40), a(2, 0), open, a(2, 1), open},
	}
}

// TestBehindCrashes: a fuse at each write and sync on the way, with picks of all kinds.
func TestBehindCrashes(t *testing.T) {
	behind := map[string]int{}
	for name, steps := range stories() {
		for _, sectors := range []int{12, 15, 16} {
			by := rand.New(rand.NewSource(18))
			for n := 1; ; n++ {
				play := func() (*story, bool) {
					s := begins(t, newDisk(t, sectors))
					is(t, s.d.Fuse(n), api.OK)
					return s, s.does(steps)
				}
				s, through := play()
				for _, picks := range manyPicks(by, s.d.Waits()) {
					s, _ = play()
					behind[s.lasts(picks)]++
				}
				if through {
					break
				}
				if n > 1000 {
					t.Fatal(name, "does not end")
				}
			}
		}
	}
	for kind, least := range map[string]int{"no call under way": 30, "nothing of it": 1000, "a part of it": 300, "all of it": 1000} {
		if behind[kind] < least {
			t.Errorf("behind crashes there were %v", behind)
		}
	}
}

// TestCrashesOfOpen: what a crash left is opened, a fuse at each write and sync on the way, and crashes again.
func TestCrashesOfOpen(t *testing.T) {
	torn := 0
	for _, steps := range stories() {
		by := rand.New(rand.NewSource(19))
		for n, through := 1, false; !through; n++ {
			play := func() *story {
				s := begins(t, newDisk(t, 12))
				is(t, s.d.Fuse(n), api.OK)
				through = s.does(steps)
				return s
			}
			for _, first := range [][]int{{30}, {64, 1}, {64, 64, 64, 30}, drawnPicks(by, play().d.Waits())} {
				torn += crashesOfOpen(t, by, func() *story {
					s := play()
					is(t, s.d.Crash(first...), api.OK)
					return s
				})
			}
		}
	}
	if torn < 100 {
		t.Errorf("only %d crashes were in Open", torn)
	}
}

// crashesOfOpen is how many writes and syncs Open has behind what is played, at each of which there were crashes.
func crashesOfOpen(t *testing.T, by *rand.Rand, play func() *story) int {
	t.Helper()
	for m := 1; ; m++ {
		open := func() (*story, api.Errno) {
			s := play()
			is(t, s.d.Fuse(m), api.OK)
			_, e := boxes.Open(s.d, 4)
			return s, e
		}
		s, e := open()
		for _, picks := range manyPicks(by, s.d.Waits()) {
			s, _ = open()
			s.lasts(picks)
		}
		if e == api.OK {
			return m - 1
		}
		is(t, e, api.ErrDown)
	}
}

// TestCrashesOfTheFirstOpen: on a disk with all kinds of things on it, no log among them.
func TestCrashesOfTheFirstOpen(t *testing.T) {
	for seed := range int64(20) {
		by := rand.New(rand.NewSource(seed))
		for n, through := 1, false; !through; n++ {
			play := func() (*story, bool) {
				by := rand.New(rand.NewSource(seed))
				d := newDisk(t, 8+by.Intn(8))
				for i := range d.Size() {
					if by.Intn(2) == 0 {
						d.Write(i, drawnText(by, sectorLong))
					}
				}
				d.Sync()
				d.Fuse(n)
				_, e := boxes.Open(d, 4)
				return &story{t: t, d: d}, e == api.OK
			}
			var s *story
			s, through = play()
			for _, picks := range manyPicks(by, s.d.Waits()) {
				s, _ = play()
				s.lasts(picks)
			}
		}
	}
}

// drawnStep is one of few users, ids and texts, so that calls meet one another.
func drawnStep(by *rand.Rand) step {
	switch k := by.Intn(12); {
	case k == 0:
		return step{kind: "open"}
	case k < 7:
		return step{"put", by.Intn(3), []int{by.Intn(8)}, []int{0, 5, 28, 29, 90, 222}[by.Intn(6)]}
	}
	x := step{kind: "ack", user: by.Intn(3)}
	for range by.Intn(6) {
		x.ids = append(x.ids, by.Intn(8))
	}
	return x
}

// TestDrawnStories: crashes behind one another, each behind some calls.
func TestDrawnStories(t *testing.T) {
	behind := map[string]int{}
	for seed := range int64(1500) {
		by := rand.New(rand.NewSource(seed))
		d := newDisk(t, 6+by.Intn(24))
		for range 8 {
			s := begins(t, d)
			is(t, d.Fuse(by.Intn(30)), api.OK)
			var steps []step
			for range by.Intn(14) {
				steps = append(steps, drawnStep(by))
			}
			s.does(steps)
			picks := manyPicks(by, d.Waits())
			behind[s.lasts(picks[by.Intn(len(picks))])]++
		}
	}
	for _, kind := range []string{"no call under way", "nothing of it", "a part of it", "all of it"} {
		if behind[kind] < 25 {
			t.Errorf("behind crashes there were %v", behind)
		}
	}
}

// TestAnswersLastBehindACrash: of calls that answered OK, with no pick at all, nothing is lost.
func TestAnswersLastBehindACrash(t *testing.T) {
	for _, sectors := range []int{4, 5, 8, 11, 20, 64} {
		x := opened(t, sectors, 4)
		by := rand.New(rand.NewSource(int64(sectors)))
		for i := range 200 {
			user, k := by.Intn(2), by.Intn(5)
			if by.Intn(2) == 0 {
				x.put(user, id(k), fmt.Sprint(i))
			} else {
				x.ack(user, id(k), id(by.Intn(5)))
			}
			if x.d.Waits() != 0 {
				t.Fatal("something waits")
			}
			want := x.p.plainEntries
			x.crash()
			is(t, x.open(4), api.OK)
			tells(t, x.b, want)
		}
	}
}
