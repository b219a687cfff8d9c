package boxes_test

import (
	"fmt"
	"math/rand"
	"slices"
	"strings"
	"sync"
	"testing"
	"unsafe"

	"dovecote/api"
	"dovecote/boxes"
	"dovecote/disk"
	"dovecote/log"
)

// Mixtures.

func drawnText(by *rand.Rand, long int) string {
	b := make([]byte, long)
	for i := range b {
		b[i] = byte(by.Intn(256))
	}
	return string(b)
}

func drawnPicks(by *rand.Rand, waits int) []int {
	l := make([]int, by.Intn(waits+3))
	for i := range l {
		l[i] = []int{0, 64, by.Intn(65), by.Intn(1 << 20)}[by.Intn(4)]
	}
	return l
}

// drawnUser is mostly one of few, now and then one that there is not.
func drawnUser(by *rand.Rand) int {
	if by.Intn(20) == 0 {
		return wrongUsers()[by.Intn(len(wrongUsers()))]
	}
	return []int{0, 1, 1, 2, 31, 63}[by.Intn(6)]
}

// drawnId is mostly one of few, now and then a new one, or one that may not be.
func drawnId(by *rand.Rand) string {
	switch k := by.Intn(40); {
	case k == 0:
		return wrongIds()[by.Intn(len(wrongIds()))]
	case k < 4:
		return drawnText(by, 16)
	case k < 8:
		return someIds()[by.Intn(len(someIds()))]
	}
	return id(by.Intn(6))
}

func drawnIds(by *rand.Rand) (l []string) {
	many := []int{0, 1, 1, 2, 3, 4, 6, 12}[by.Intn(8)]
	if by.Intn(40) == 0 {
		many = 255 + by.Intn(4)
	}
	for range many {
		l = append(l, drawnId(by))
	}
	if many > 12 && by.Intn(2) == 0 {
		l = ids(0, many)
	}
	return l
}

// drawnLong is a text's length, at an end of a sector mostly.
func drawnLong(by *rand.Rand) int {
	return []int{0, 1, 2, 27, 28, 29, 92, 93, 156, 157, 220, 221, 222, 223, by.Intn(223), by.Intn(30), by.Intn(30), by.Intn(30)}[by.Intn(18)]
}

func drawnQuota(by *rand.Rand) int {
	if by.Intn(10) == 0 {
		return wrongQuotas()[by.Intn(len(wrongQuotas()))]
	}
	return []int{1, 2, 3, 4, 6, 8, 20, 256}[by.Intn(8)]
}

// drawnRecord is mostly one that may be.
func drawnRecord(by *rand.Rand, p plainEntries) string {
	for range 8 {
		r := recordP(by.Intn(3), id(by.Intn(6)), drawnText(by, by.Intn(40)))
		switch k := by.Intn(30); {
		case k < 3:
			return drawnText(by, 1+by.Intn(20))
		case k < 6:
			return recordP(by.Intn(256), drawnId(by), long(drawnLong(by)))
		case k < 14:
			r = recordA(by.Intn(3), id(by.Intn(6)))
		}
		if _, ok := p.behind(r); ok {
			return r
		}
	}
	return recordP(by.Intn(64), drawnText(by, 16), "")
}

// plays one drawn call.
func (x *pair) plays(by *rand.Rand) (call string, e api.Errno) {
	x.t.Helper()
	if x.down && by.Intn(4) > 0 {
		x.crash(drawnPicks(by, x.d.Waits())...)
		return "crash", api.OK
	}
	if x.down || x.b == nil {
		return "open", x.open(drawnQuota(by))
	}
	switch k := by.Intn(60); {
	case k < 26:
		return "put", x.put(drawnUser(by), drawnId(by), drawnText(by, drawnLong(by)))
	case k < 42:
		_, e := x.ack(drawnUser(by), drawnIds(by)...)
		return "ack", e
	case k < 46:
		_, e := x.first(drawnUser(by), []int{0, 1, 2, 3, 255, 256, 257, -1}[by.Intn(8)])
		return "first", e
	case k < 50:
		return "open", x.open(drawnQuota(by))
	case k < 54:
		x.fuse(by.Intn(24))
		return "fuse", api.OK
	case k < 58:
		x.crash(drawnPicks(by, x.d.Waits())...)
		return "crash", api.OK
	}
	return "lay", x.laysOne(drawnRecord(by, x.p.plainEntries))
}

// laysOne appends one record by logs alone, if it finds room, ahead of any fuse.
func (x *pair) laysOne(record string) api.Errno {
	x.t.Helper()
	x.fuse(0)
	l, e := log.Open(x.d)
	is(x.t, e, api.OK)
	if l.Room() < 5 {
		return api.ErrSpace
	}
	x.lays(record)
	return api.OK
}

// TestAsPlain: each answer, the entries of each box and each sector are those of plain boxes.
func TestAsPlain(t *testing.T) {
	told := map[string]map[api.Errno]int{"put": {}, "ack": {}, "first": {}, "open": {}, "fuse": {}, "crash": {}, "lay": {}}
	for seed := range int64(700) {
		by := rand.New(rand.NewSource(seed))
		sizes := []int{4, 5, 6, 7, 8, 9, 10, 11, 12, 13, 14, 16, 19, 20, 21, 26, 33, 40, 64, 65}
		x := newPair(t, sizes[int(seed)%len(sizes)])
		for range 150 {
			call, e := x.plays(by)
			told[call][e]++
			if call == "open" && e == api.ErrRot { // nothing mends that
				break
			}
		}
	}
	for call, want := range map[string][]api.Errno{
		"put":   {api.OK, api.ErrRange, api.ErrForm, api.ErrLong, api.ErrThere, api.ErrFull, api.ErrSpace, api.ErrDown},
		"ack":   {api.OK, api.ErrRange, api.ErrForm, api.ErrLong, api.ErrDown},
		"first": {api.OK, api.ErrRange},
		"open":  {api.OK, api.ErrRange, api.ErrDown, api.ErrRot},
	} {
		for _, e := range want {
			if told[call][e] < 50 {
				t.Errorf("%s told the error %d %d times: too few", call, e, told[call][e])
			}
		}
		if len(told[call]) != len(want) {
			t.Errorf("%s told %v", call, told[call])
		}
	}
}

// TestShortPlays: all plays of five calls of these, of which some need boxes that there are, on disks with room for three and for four sectors.
func TestShortPlays(t *testing.T) {
	asks := func(call func(x *pair)) func(x *pair) {
		return func(x *pair) {
			if x.b != nil {
				call(x)
			}
		}
	}
	calls := []func(x *pair){
		asks(func(x *pair) { x.put(1, id(0), "a") }),
		asks(func(x *pair) { x.put(1, id(1), long(29)) }),
		asks(func(x *pair) { x.put(0, id(0), "b") }),
		asks(func(x *pair) { x.ack(1, id(0)) }),
		asks(func(x *pair) { x.ack(1, id(1), id(0)) }),
		func(x *pair) {
			if !x.down {
				x.fuse(4)
			}
		},
		func(x *pair) { x.crash(64, 23, 64); x.open(2) },
		func(x *pair) { x.open(1) },
	}
	many := 1
	for range 5 {
		many *= len(calls)
	}
	for play := range many {
		x := opened(t, 8+play%2*3, 2)
		for n, k := play, 0; k < 5; n, k = n/len(calls), k+1 {
			calls[n%len(calls)](x)
		}
	}
}

// TestDrawnRecords: boxes of what a log alone appended, and what they then do.
func TestDrawnRecords(t *testing.T) {
	told := map[api.Errno]int{}
	for seed := range int64(2000) {
		by := rand.New(rand.NewSource(seed))
		x := newPair(t, 14+by.Intn(60))
		var records []string
		var p plainEntries
		for range by.Intn(x.d.Size()/4 - 1) {
			r := drawnRecord(by, p)
			if len(r) > 92 {
				r = r[:92]
			}
			p, _ = p.behind(r)
			records = append(records, r)
		}
		x.lays(records...)
		e := x.open(1 + by.Intn(8))
		told[e]++
		if e != api.OK {
			continue
		}
		for range 8 {
			if by.Intn(2) == 0 {
				x.ack(by.Intn(3), drawnIds(by)...)
			} else {
				x.put(by.Intn(3), drawnId(by), long(drawnLong(by)))
			}
		}
	}
	if told[api.OK] < 300 || told[api.ErrRot] < 300 || len(told) != 2 {
		t.Errorf("Open told %v", told)
	}
}

// Rules that hold everywhere.

// refusedCalls asks for what is refused by its arguments, or by what a box has.
func (x *pair) refusedCalls(by *rand.Rand) {
	x.t.Helper()
	wrong := wrongIds()[by.Intn(len(wrongIds()))]
	user := wrongUsers()[by.Intn(len(wrongUsers()))]
	is(x.t, x.b.Put(user, id(0), ""), api.ErrRange)
	is(x.t, x.b.Put(1, wrong, ""), api.ErrForm)
	is(x.t, x.b.Put(1, id(99), long(223)), api.ErrLong)
	for _, w := range x.p.plainEntries {
		is(x.t, x.b.Put(w.user, w.id, "again"), api.ErrThere)
		if len(x.p.of(w.user)) >= x.p.quota {
			is(x.t, x.b.Put(w.user, drawnText(by, 16), ""), api.ErrFull)
		}
		if n, e := x.b.Ack(w.user, w.id, wrong); n != 0 || e != api.ErrForm {
			x.t.Fatalf("Ack: %d, error %d", n, e)
		}
		if n, e := x.b.Ack(w.user, slices.Repeat([]string{w.id}, 257)...); n != 0 || e != api.ErrLong {
			x.t.Fatalf("Ack: %d, error %d", n, e)
		}
		if n, e := x.b.Ack(user, w.id); n != 0 || e != api.ErrRange {
			x.t.Fatalf("Ack: %d, error %d", n, e)
		}
	}
	refuses(x.t, x.d, 0, api.ErrRange)
	refuses(x.t, x.d, 257, api.ErrRange)
	x.looks()
}

// TestRefusedCallsChangeNothing plays the same calls with two boxes, one of them with refused ones between.
func TestRefusedCallsChangeNothing(t *testing.T) {
	for seed := range int64(80) {
		by := rand.New(rand.NewSource(seed))
		size := 8 + by.Intn(20)
		calm, x := newPair(t, size), newPair(t, size)
		for range 60 {
			if x.b != nil {
				x.refusedCalls(by)
			}
			play := by.Int63()
			calm.plays(rand.New(rand.NewSource(play)))
			x.plays(rand.New(rand.NewSource(play)))
			if (calm.b == nil) != (x.b == nil) {
				t.Fatal("one has boxes, the other none")
			}
			if x.b != nil {
				tells(t, x.b, calm.p.plainEntries)
			}
			if !x.down && !slices.Equal(read(t, x.d), read(t, calm.d)) {
				t.Fatal("the disks are not the same")
			}
		}
	}
}

// TestRefusedForRoomChangesNothing: a Put that finds none is as if it never was, for all calls behind it.
func TestRefusedForRoomChangesNothing(t *testing.T) {
	refused := 0
	for seed := range int64(60) {
		by := rand.New(rand.NewSource(seed))
		size := 6 + by.Intn(10)
		calm, x := opened(t, size, 4), opened(t, size, 4)
		for range 40 {
			user, k, n := by.Intn(3), by.Intn(6), drawnLong(by)
			if by.Intn(3) == 0 {
				calm.ack(user, id(k))
				x.ack(user, id(k))
			} else if x.put(user, id(k), long(n)) != api.ErrSpace {
				calm.put(user, id(k), long(n))
			} else {
				refused++
			}
			tells(t, x.b, calm.p.plainEntries)
			if !slices.Equal(read(t, x.d), read(t, calm.d)) {
				t.Fatal("the disks are not the same")
			}
		}
	}
	if refused < 200 {
		t.Errorf("only %d were refused", refused)
	}
}

// TestAsksChangeNothing: neither the boxes nor the disk.
func TestAsksChangeNothing(t *testing.T) {
	x := opened(t, 20, 4)
	x.puts(1, 0, 1)
	x.puts(63, 2)
	quiet(t, x.d, func() {
		for range 10 {
			tells(t, x.b, plainEntries{{1, id(0), "0"}, {1, id(1), "1"}, {63, id(2), "2"}})
			x.b.First(1, 0)
			x.b.First(1, 1)
			x.b.First(1, 300)
		}
	})
}

// TestFirstIsNew: what is answered may be changed, its spare room too.
func TestFirstIsNew(t *testing.T) {
	x := opened(t, 80, 40)
	for i := range 20 {
		x.puts(1, i)
		first, _ := x.b.First(1, 10)
		second, _ := x.b.First(1, 10)
		was := slices.Clone(second)
		for k := range first {
			first[k] = api.Slot{Id: "changed", Text: "changed"}
		}
		_ = append(first, api.Slot{Id: "spare"})
		first = first[:cap(first)]
		for k := range first {
			first[k].Text = "spare"
		}
		if !slices.Equal(second, was) {
			t.Fatalf("another answer became %q", second)
		}
		x.looks()
		slices.Reverse(second)
		x.looks()
		x.puts(2, i)
		if i%4 == 3 {
			x.acks(2, 1, id(i-1), id(i-3))
		}
	}
}

// TestIdsStayAsTheyAre: those that are handed to Ack, and what lies behind them.
func TestIdsStayAsTheyAre(t *testing.T) {
	x := opened(t, 40, 8)
	x.puts(1, 0, 1, 2, 3)
	given := []string{id(9), id(2), id(2), id(0), "behind", id(1)}
	was := slices.Clone(given)
	for _, many := range []int{0, 1, 4} {
		x.b.Ack(1, given[:many]...)
		x.p.ack(1, given[:many]...)
		if !slices.Equal(given, was) {
			t.Fatalf("Ack left %q", given)
		}
		x.looks()
	}
	x.hasJust(1, 1, 3)
	if n, e := x.b.Ack(1, given...); n != 0 || e != api.ErrForm || !slices.Equal(given, was) {
		t.Fatalf("%d, error %d: Ack left %q", n, e, given)
	}
}

// TestNothingIsShared: ids and texts are written over once they were handed in or answered, as no program of the language could; the boxes and the disk have them still.
func TestNothingIsShared(t *testing.T) {
	spoil := func(s string) {
		b := unsafe.Slice(unsafe.StringData(s), len(s))
		for i := range b {
			b[i] = '?'
		}
	}
	x := opened(t, 24, 40)
	for k := range 80 {
		given, text := strings.Clone(id(k)), strings.Clone(fmt.Sprint("text ", k))
		want := x.p.put(k%3, id(k), fmt.Sprint("text ", k))
		is(t, x.b.Put(k%3, given, text), want)
		spoil(given)
		spoil(text)
		x.looks()
		if k > 5 {
			given := []string{strings.Clone(id(k - 5)), strings.Clone(id(k - 2))}
			want, _ := x.p.ack((k-5)%3, id(k-5), id(k-2))
			if n, e := x.b.Ack((k-5)%3, given...); n != want || e != api.OK {
				t.Fatalf("Ack: %d, error %d", n, e)
			}
			spoil(given[0])
			spoil(given[1])
			x.looks()
		}
		if k%7 == 6 {
			x.open(40)
		}
		for user := range 3 {
			first, _ := x.b.First(user, 256)
			second, _ := x.b.First(user, 256)
			for _, s := range first {
				spoil(s.Id)
				spoil(s.Text)
			}
			if !slices.Equal(second, x.p.of(user)) {
				t.Fatalf("another answer became %q", second)
			}
			for _, s := range second {
				spoil(s.Id)
				spoil(s.Text)
			}
		}
		x.looks()
	}
}

// TestBoxesOfADiskThatWasDown: boxes whose disk was down, or crashed, are not to be asked; their calls end all the same.
func TestBoxesOfADiskThatWasDown(t *testing.T) {
	for n := range 20 {
		for _, crashed := range []bool{false, true} {
			x := opened(t, 12, 6)
			x.puts(1, 0, 1)
			x.puts(2, 0)
			b := x.b
			x.fuse(n)
			for k := range 8 {
				b.Put(1, id(k), long(30*k))
				b.Ack(1, id(k), id(k-1), id(k-2))
				if crashed {
					x.d.Crash(7, 64)
				}
				b.First(1, 4)
				b.Len(1)
				b.Put(2, "", "")
				b.Ack(2)
			}
		}
	}
}

// TestBoxesDoNotKnowOfOneAnother: neither of entries nor of quotas nor of what befalls disks.
func TestBoxesDoNotKnowOfOneAnother(t *testing.T) {
	a, b := opened(t, 20, 1), opened(t, 20, 4)
	a.puts(1, 0)
	tells(t, b.b, nil)
	b.puts(1, 0, 1, 2)
	b.acks(1, 1, id(0))
	tells(t, a.b, plainEntries{{1, id(0), "0"}})
	a.fuse(1)
	b.puts(1, 3)
	is(t, a.put(2, id(1), ""), api.ErrDown)
	b.hasJust(1, 1, 2, 3)
	a.crash()
	b.puts(1, 4)
	is(t, b.put(1, id(5), ""), api.ErrFull)
	by := rand.New(rand.NewSource(18))
	l := []*pair{newPair(t, 6), newPair(t, 12), newPair(t, 12)}
	for range 1500 {
		k := by.Intn(len(l))
		if call, e := l[k].plays(by); call == "open" && e == api.ErrRot {
			l[k] = newPair(t, 12)
		}
		for _, other := range l {
			other.looks()
		}
	}
}

// TestSameCallsTellTheSame, again and again, and at the same time.
func TestSameCallsTellTheSame(t *testing.T) {
	play := func() string {
		by := rand.New(rand.NewSource(4))
		d, _ := disk.New(20)
		b, _ := boxes.Open(d, 6)
		var said strings.Builder
		for range 400 {
			var e api.Errno
			n := 0
			switch by.Intn(8) {
			case 0, 1, 2:
				n, e = b.Ack(drawnUser(by), drawnIds(by)...)
			case 3:
				d.Fuse(by.Intn(9))
			case 4:
				d.Crash(drawnPicks(by, d.Waits())...)
				b, e = boxes.Open(d, 6)
			default:
				e = b.Put(drawnUser(by), drawnId(by), drawnText(by, drawnLong(by)))
			}
			if e == api.ErrDown {
				d.Crash(drawnPicks(by, d.Waits())...)
				b, e = boxes.Open(d, 6)
			}
			fmt.Fprintf(&said, "%d %d %d\n", n, e, d.Waits())
			for user := range 64 {
				l, e := b.First(user, 256)
				fmt.Fprintf(&said, "%x %d %d ", l, e, b.Len(user))
			}
			for i := range d.Size() {
				s, e := d.Read(i)
				fmt.Fprintf(&said, "%x %d\n", s, e)
			}
		}
		return said.String()
	}
	want := play()
	var everyone sync.WaitGroup
	said := make([]string, 8)
	for k := range said {
		everyone.Go(func() { said[k] = play() })
	}
	everyone.Wait()
	for _, s := range said {
		if s != want {
			t.Fatal("another answer")
		}
	}
}
