package wheel_test

import (
	"cmp"
	"math"
	"math/rand"
	"slices"
	"sync"
	"testing"

	"dovecote/api"
	"dovecote/wheel"
)

// timer is what the plain list below keeps of one.
type timer struct{ at, number, id int }

// plain is timers by the chapter's words: a list that is kept as they stand.
type plain struct {
	now, put int
	l        []timer
}

func (p *plain) Put(at, id int) (int, api.Errno) {
	switch {
	case at <= p.now:
		return 0, api.ErrLate
	case at > api.MaxTick:
		return 0, api.ErrRange
	case len(p.l) == api.MaxItems:
		return 0, api.ErrLong
	}
	p.put++
	behind := len(p.l)
	for behind > 0 && p.l[behind-1].at > at {
		behind--
	}
	p.l = slices.Insert(p.l, behind, timer{at, p.put, id})
	return p.put, api.OK
}

func (p *plain) Cancel(number int) api.Errno {
	for i, t := range p.l {
		if t.number == number {
			p.l = slices.Delete(p.l, i, i+1)
			return api.OK
		}
	}
	return api.ErrNone
}

func (p *plain) Advance(to int) ([]int, api.Errno) {
	switch {
	case to < p.now:
		return nil, api.ErrLate
	case to > api.MaxTick:
		return nil, api.ErrRange
	}
	p.now = to
	var ids []int
	for len(p.l) > 0 && p.l[0].at <= to {
		ids = append(ids, p.l[0].id)
		p.l = p.l[1:]
	}
	return ids, api.OK
}

// pair is a wheel, and a plain list that each of its calls is held against.
type pair struct {
	t *testing.T
	w *wheel.Wheel
	p plain
}

func newPair(t *testing.T) *pair {
	t.Helper()
	x := &pair{t: t, w: wheel.New()}
	x.looks()
	return x
}

// looks fails unless Next, Now and Len are as the list's.
func (x *pair) looks() {
	x.t.Helper()
	at, ok := x.w.Next()
	if len(x.p.l) == 0 && (at != 0 || ok) || len(x.p.l) > 0 && (at != x.p.l[0].at || !ok) {
		x.t.Fatalf("Next: %d, %t, of %d timers at %d: %v", at, ok, len(x.p.l), x.p.now, x.p.l[:min(3, len(x.p.l))])
	}
	if n := x.w.Now(); n != x.p.now {
		x.t.Fatalf("Now: %d; want %d", n, x.p.now)
	}
	if n := x.w.Len(); n != len(x.p.l) {
		x.t.Fatalf("Len: %d; want %d", n, len(x.p.l))
	}
}

func (x *pair) put(at, id int) api.Errno {
	x.t.Helper()
	want, wantE := x.p.Put(at, id)
	if n, e := x.w.Put(at, id); n != want || e != wantE {
		x.t.Fatalf("Put(%d, %d) at %d: %d, error %d; want %d, error %d", at, id, x.p.now, n, e, want, wantE)
	}
	x.looks()
	return wantE
}

func (x *pair) cancel(number int) api.Errno {
	x.t.Helper()
	want := x.p.Cancel(number)
	if e := x.w.Cancel(number); e != want {
		x.t.Fatalf("Cancel(%d): error %d; want %d", number, e, want)
	}
	x.looks()
	return want
}

func (x *pair) advance(to int) api.Errno {
	x.t.Helper()
	from := x.p.now
	want, wantE := x.p.Advance(to)
	if l, e := x.w.Advance(to); !slices.Equal(l, want) || e != wantE {
		x.t.Fatalf("Advance(%d) from %d: %v, error %d; want %v, error %d", to, from, few(l), e, few(want), wantE)
	}
	x.looks()
	return wantE
}

// ends tells all timers that are left, in one step.
func (x *pair) ends() {
	x.t.Helper()
	x.advance(api.MaxTick)
	if x.w.Len() != 0 {
		x.t.Fatalf("%d timers are left", x.w.Len())
	}
}

// few is a list's front, short enough to be shown.
func few(l []int) []int { return l[:min(len(l), 40)] }

// isPut, isCancel, isAdvance and is fail unless a wheel answers this.
func isPut(t *testing.T, w *wheel.Wheel, at, id, want int, wantE api.Errno) {
	t.Helper()
	if n, e := w.Put(at, id); n != want || e != wantE {
		t.Fatalf("Put(%d, %d): %d, error %d; want %d, error %d", at, id, n, e, want, wantE)
	}
}

func isCancel(t *testing.T, w *wheel.Wheel, number int, want api.Errno) {
	t.Helper()
	if e := w.Cancel(number); e != want {
		t.Fatalf("Cancel(%d): error %d; want %d", number, e, want)
	}
}

func isAdvance(t *testing.T, w *wheel.Wheel, to int, want []int, wantE api.Errno) {
	t.Helper()
	if l, e := w.Advance(to); !slices.Equal(l, want) || e != wantE {
		t.Fatalf("Advance(%d): %v, error %d; want %v, error %d", to, few(l), e, few(want), wantE)
	}
}

// is: the time, how many timers, the first deadline (0: there is none).
func is(t *testing.T, w *wheel.Wheel, now, many, first int) {
	t.Helper()
	at, ok := w.Next()
	if w.Now() != now || w.Len() != many || at != first || ok != (many > 0) {
		t.Fatalf("time %d, %d timers, first %d, %t; want %d, %d, %d", w.Now(), w.Len(), at, ok, now, many, first)
	}
}

// Numbers that no deadline and no time may be: those that are over at any time, and those above api.MaxTick.
func allOver() []int {
	return []int{-1, -2, -63, -64, -65, -1 << 31, -1 << 32, -api.MaxTick, -api.MaxTick - 1, math.MinInt + 1, math.MinInt}
}

func tooFar() []int {
	return []int{api.MaxTick + 1, api.MaxTick + 2, api.MaxTick + 64, 1 << 41, 1<<42 - 1, 1 << 42, 1<<42 + 1, 1 << 62, math.MaxInt - 1, math.MaxInt}
}

// levelEnds is where levels may end: however many slots they have, as long as that is a power of two.
func levelEnds() []int {
	var l []int
	for k := range 41 {
		for _, times := range []int{1, 3, 63} {
			if at := times << k; at <= api.MaxTick {
				l = append(l, at)
			}
		}
	}
	slices.Sort(l)
	return slices.Compact(l)
}

// mayBe is those of a list that a deadline or a time can be.
func mayBe(l []int, above int) []int {
	return slices.DeleteFunc(l, func(at int) bool { return at <= above || at > api.MaxTick })
}

// around is the numbers at each of a list, and just beside it.
func around(l []int) []int {
	var r []int
	for _, x := range l {
		r = append(r, x-2, x-1, x, x+1, x+2)
	}
	slices.Sort(r)
	return slices.Compact(r)
}

// Promise 14.1.

func TestNewHasNothing(t *testing.T) {
	w := wheel.New()
	is(t, w, 0, 0, 0)
	isCancel(t, w, 0, api.ErrNone)
	isCancel(t, w, 1, api.ErrNone)
	isAdvance(t, w, 0, nil, api.OK)
	is(t, w, 0, 0, 0)
	isAdvance(t, w, api.MaxTick, nil, api.OK)
	is(t, w, api.MaxTick, 0, 0)
}

func TestPutTellsNumbers(t *testing.T) {
	w := wheel.New()
	isPut(t, w, 9, 70, 1, api.OK)
	is(t, w, 0, 1, 9)
	isPut(t, w, 4, 70, 2, api.OK)
	is(t, w, 0, 2, 4)
	isPut(t, w, 4, 60, 3, api.OK)
	is(t, w, 0, 3, 4)
	isPut(t, w, 1<<30, 50, 4, api.OK)
	is(t, w, 0, 4, 4)
	isPut(t, w, 1, 40, 5, api.OK)
	is(t, w, 0, 5, 1)
}

// TestPutBesideTheTime has deadlines at a wheel's time, and just beside it.
func TestPutBesideTheTime(t *testing.T) {
	for _, now := range mayBe(around(levelEnds()), -1) {
		w := wheel.New()
		isAdvance(t, w, now, nil, api.OK)
		isPut(t, w, now, 5, 0, api.ErrLate)
		isPut(t, w, now-1, 5, 0, api.ErrLate)
		isPut(t, w, 0, 5, 0, api.ErrLate)
		isPut(t, w, api.MaxTick+1, 5, 0, api.ErrRange)
		is(t, w, now, 0, 0)
		if now == api.MaxTick {
			continue
		}
		isPut(t, w, now+1, 5, 1, api.OK)
		is(t, w, now, 1, now+1)
		isPut(t, w, api.MaxTick, 6, 2, api.OK)
		is(t, w, now, 2, now+1)
		if now+1 < api.MaxTick {
			isAdvance(t, w, now+1, []int{5}, api.OK)
			isAdvance(t, w, api.MaxTick, []int{6}, api.OK)
		} else {
			isAdvance(t, w, now+1, []int{5, 6}, api.OK)
		}
		is(t, w, api.MaxTick, 0, 0)
	}
}

func TestPutRefuses(t *testing.T) {
	for _, now := range []int{0, 1, 63, 64, 4095, 1 << 20, api.MaxTick - 1, api.MaxTick} {
		w := wheel.New()
		isAdvance(t, w, now, nil, api.OK)
		for _, id := range []int{0, 1, -1, math.MinInt, math.MaxInt} {
			for _, at := range append(allOver(), 0, now, now-1, now/2) {
				isPut(t, w, at, id, 0, api.ErrLate)
			}
			for _, at := range tooFar() {
				isPut(t, w, at, id, 0, api.ErrRange)
			}
		}
		is(t, w, now, 0, 0)
		if now < api.MaxTick {
			isPut(t, w, api.MaxTick, 8, 1, api.OK)
			isAdvance(t, w, api.MaxTick, []int{8}, api.OK)
		}
	}
}

// TestFull has as many timers as may be, then one more; and one more again once there is room. What is wrong with a deadline is told first.
func TestFull(t *testing.T) {
	for _, deadline := range []func(i int) int{
		func(i int) int { return 7 },
		func(i int) int { return i + 2 },
		func(i int) int { return 1<<40 - i },
		func(i int) int { return 5000 + i*i%977*64 },
	} {
		w := wheel.New()
		isAdvance(t, w, 1, nil, api.OK)
		for i := range api.MaxItems {
			isPut(t, w, deadline(i), i, i+1, api.OK)
		}
		first, _ := w.Next()
		for _, at := range []int{2, 64, first, api.MaxTick} {
			isPut(t, w, at, 1, 0, api.ErrLong)
		}
		isPut(t, w, 1, 1, 0, api.ErrLate)
		isPut(t, w, math.MinInt, 1, 0, api.ErrLate)
		isPut(t, w, api.MaxTick+1, 1, 0, api.ErrRange)
		isPut(t, w, math.MaxInt, 1, 0, api.ErrRange)
		is(t, w, 1, api.MaxItems, first)

		isCancel(t, w, 1234, api.OK)
		isPut(t, w, api.MaxTick, -1, api.MaxItems+1, api.OK)
		isPut(t, w, api.MaxTick, -2, 0, api.ErrLong)
		isCancel(t, w, api.MaxItems+1, api.OK)
		isPut(t, w, api.MaxTick, -3, api.MaxItems+2, api.OK)
		isPut(t, w, api.MaxTick, -4, 0, api.ErrLong)

		l, e := w.Advance(first)
		if len(l) == 0 || e != api.OK {
			t.Fatalf("%d timers told, error %d", len(l), e)
		}
		for i := range l {
			isPut(t, w, api.MaxTick, -5, api.MaxItems+3+i, api.OK)
		}
		isPut(t, w, api.MaxTick, -6, 0, api.ErrLong)
		if w.Len() != api.MaxItems {
			t.Fatalf("%d timers", w.Len())
		}
		all, e := w.Advance(api.MaxTick)
		if len(all) != api.MaxItems || e != api.OK || w.Len() != 0 {
			t.Fatalf("%d timers told, %d left, error %d", len(all), w.Len(), e)
		}
	}
}

// TestFullAsPlain keeps a wheel full, each told or canceled one with one more in its stead.
func TestFullAsPlain(t *testing.T) {
	by := rand.New(rand.NewSource(1))
	x := newPair(t)
	for x.put(x.p.now+1+by.Intn(1<<(1+by.Intn(20))), by.Int()) == api.OK {
	}
	if x.p.put != api.MaxItems {
		t.Fatalf("%d timers were put", x.p.put)
	}
	for range 300 {
		if by.Intn(2) == 0 {
			x.cancel(x.p.l[by.Intn(len(x.p.l))].number)
		} else {
			x.advance(x.p.l[by.Intn(3)].at)
		}
		for x.put(x.p.now+1+by.Intn(1<<(1+by.Intn(20))), by.Int()) == api.OK {
		}
	}
	x.ends()
}

// TestNumbersGoOn behind timers that were told or canceled; a refused one takes none.
func TestNumbersGoOn(t *testing.T) {
	w := wheel.New()
	isPut(t, w, 5, 1, 1, api.OK)
	isAdvance(t, w, 5, []int{1}, api.OK)
	isPut(t, w, 6, 1, 2, api.OK)
	isCancel(t, w, 2, api.OK)
	isPut(t, w, 5, 1, 0, api.ErrLate)
	isPut(t, w, api.MaxTick+1, 1, 0, api.ErrRange)
	isPut(t, w, 6, 1, 3, api.OK)
	isCancel(t, w, 2, api.ErrNone)
	isCancel(t, w, 1, api.ErrNone)
	for i := range 3 * api.MaxItems {
		isPut(t, w, 6+i, i, 4+i, api.OK)
		if i%2 == 0 {
			isCancel(t, w, 4+i, api.OK)
		} else if _, e := w.Advance(6 + i); e != api.OK {
			t.Fatal(e)
		}
	}
	isPut(t, w, api.MaxTick, 1, 3*api.MaxItems+4, api.OK)
}

// TestNumbersOfAFullWheel: what is refused for want of room takes no number either.
func TestNumbersOfAFullWheel(t *testing.T) {
	w := wheel.New()
	for i := range api.MaxItems {
		isPut(t, w, 10, 0, i+1, api.OK)
	}
	for range 100 {
		isPut(t, w, 10, 0, 0, api.ErrLong)
	}
	isCancel(t, w, api.MaxItems+1, api.ErrNone)
	isCancel(t, w, 17, api.OK)
	isPut(t, w, 10, 0, api.MaxItems+1, api.OK)
}

// TestIds are told as they were put, whatever they are.
func TestIds(t *testing.T) {
	ids := []int{0, -1, 7, 7, math.MaxInt, math.MinInt, 7, 0, 1 << 40, -1 << 40, 1, math.MinInt, 7}
	for _, now := range []int{0, 60, 4000} {
		for _, at := range []int{now + 1, now + 100, now + 5000, api.MaxTick} {
			w := wheel.New()
			isAdvance(t, w, now, nil, api.OK)
			for i, id := range ids {
				isPut(t, w, at, id, i+1, api.OK)
			}
			isAdvance(t, w, at-1, nil, api.OK)
			isAdvance(t, w, at, ids, api.OK)
		}
	}
}

// TestSameIds: of timers with one id, the one that was canceled alone is gone.
func TestSameIds(t *testing.T) {
	w := wheel.New()
	for i, at := range []int{90, 30, 30, 90, 5} {
		isPut(t, w, at, 7, i+1, api.OK)
	}
	isCancel(t, w, 5, api.OK)
	is(t, w, 0, 4, 30)
	isCancel(t, w, 3, api.OK)
	isCancel(t, w, 7, api.ErrNone)
	isAdvance(t, w, 30, []int{7}, api.OK)
	is(t, w, 30, 2, 90)
	isCancel(t, w, 1, api.OK)
	isAdvance(t, w, 90, []int{7}, api.OK)
	is(t, w, 90, 0, 0)
}

func TestCancel(t *testing.T) {
	w := wheel.New()
	for i, at := range []int{3, 3, 3, 100, 5000, 1 << 30, api.MaxTick} {
		isPut(t, w, at, 10+i, i+1, api.OK)
	}
	isCancel(t, w, 2, api.OK)
	is(t, w, 0, 6, 3)
	isCancel(t, w, 1, api.OK)
	is(t, w, 0, 5, 3)
	isCancel(t, w, 3, api.OK)
	is(t, w, 0, 4, 100)
	isCancel(t, w, 6, api.OK)
	is(t, w, 0, 3, 100)
	isCancel(t, w, 4, api.OK)
	is(t, w, 0, 2, 5000)
	isAdvance(t, w, 1<<31, []int{14}, api.OK)
	isCancel(t, w, 7, api.OK)
	is(t, w, 1<<31, 0, 0)
	isAdvance(t, w, api.MaxTick, nil, api.OK)
}

// TestCancelOnItsWay: a timer is found whatever time went by since it was put, on whichever level it is by then.
func TestCancelOnItsWay(t *testing.T) {
	for _, at := range mayBe(around(levelEnds()), 3) {
		for _, now := range []int{1, at / 2, at - at/64, at - 64, at - 2, at - 1} {
			if now < 0 || now >= at {
				continue
			}
			w := wheel.New()
			isPut(t, w, at, 1, 1, api.OK)
			isPut(t, w, at, 2, 2, api.OK)
			isPut(t, w, at, 3, 3, api.OK)
			isAdvance(t, w, now, nil, api.OK)
			isCancel(t, w, 2, api.OK)
			isCancel(t, w, 2, api.ErrNone)
			is(t, w, now, 2, at)
			isAdvance(t, w, at, []int{1, 3}, api.OK)
			isCancel(t, w, 1, api.ErrNone)
			isCancel(t, w, 3, api.ErrNone)
			is(t, w, at, 0, 0)
		}
	}
}

func TestCancelRefuses(t *testing.T) {
	w := wheel.New()
	isPut(t, w, 5, 50, 1, api.OK)
	isPut(t, w, 6, 60, 2, api.OK)
	isPut(t, w, 900, 70, 3, api.OK)
	isPut(t, w, 901, 80, 4, api.OK)
	isAdvance(t, w, 5, []int{50}, api.OK)
	isCancel(t, w, 3, api.OK)
	for range 2 {
		for _, number := range []int{0, -1, -2, -3, -4, 1, 3, 5, 6, 50, 60, 900, 901, 1 << 32, 1<<32 + 2, 1<<32 + 4, math.MaxInt, math.MaxInt - 1, math.MinInt, math.MinInt + 2} {
			isCancel(t, w, number, api.ErrNone)
			is(t, w, 5, 2, 6)
		}
	}
	isPut(t, w, 901, 90, 5, api.OK)
	isCancel(t, w, 5, api.OK)
	isCancel(t, w, 5, api.ErrNone)
	isAdvance(t, w, 1000, []int{60, 80}, api.OK)
	for number := -2; number < 10; number++ {
		isCancel(t, w, number, api.ErrNone)
	}
	is(t, w, 1000, 0, 0)
}

// Promise 14.2.

func TestExample(t *testing.T) {
	w := wheel.New()
	isPut(t, w, 5, 1, 1, api.OK)
	isPut(t, w, 3, 2, 2, api.OK)
	isPut(t, w, 5, 3, 3, api.OK)
	is(t, w, 0, 3, 3)
	isAdvance(t, w, 4, []int{2}, api.OK)
	is(t, w, 4, 2, 5)
	isAdvance(t, w, 5, []int{1, 3}, api.OK)
	is(t, w, 5, 0, 0)
}

// orders is all orders of a list.
func orders(l []int) [][]int {
	if len(l) == 0 {
		return [][]int{nil}
	}
	var all [][]int
	for i, x := range l {
		for _, rest := range orders(slices.Delete(slices.Clone(l), i, i+1)) {
			all = append(all, append([]int{x}, rest...))
		}
	}
	return all
}

// TestAnyOrder puts deadlines in all orders that they have.
func TestAnyOrder(t *testing.T) {
	for _, l := range [][]int{{1, 2, 3, 4, 5}, {7, 7, 8, 8, 9}, {1, 63, 64, 65, 128}, {63, 64, 64, 4095, 4096}, {1, 1 << 20, 1 << 20, 1<<20 + 1, 1 << 40}, {100, 100, 100, 100, 99}} {
		for _, order := range orders(l) {
			x := newPair(t)
			for i, at := range order {
				x.put(at, 10*i)
			}
			x.advance(l[2] - 1)
			x.advance(l[2])
			x.ends()
		}
	}
}

// TestManyStand has many timers, whose order is told by sorting them.
func TestManyStand(t *testing.T) {
	for seed := range int64(30) {
		by := rand.New(rand.NewSource(seed))
		wide := 1 + by.Intn(1<<(1+by.Intn(40)))
		w := wheel.New()
		var l []timer
		for i := range api.MaxItems {
			x := timer{1 + by.Intn(wide), i + 1, by.Intn(50)}
			isPut(t, w, x.at, x.id, x.number, api.OK)
			l = append(l, x)
		}
		slices.SortStableFunc(l, func(a, b timer) int { return cmp.Compare(a.at, b.at) })
		var want []int
		for _, x := range l {
			want = append(want, x.id)
		}
		is(t, w, 0, api.MaxItems, l[0].at)
		half := l[len(l)/2].at
		many := 0
		for many < len(l) && l[many].at <= half {
			many++
		}
		isAdvance(t, w, half, want[:many], api.OK)
		isAdvance(t, w, api.MaxTick, want[many:], api.OK)
	}
}

// TestAdvanceBesideDeadlines comes just ahead of each deadline, to it, and just behind it.
func TestAdvanceBesideDeadlines(t *testing.T) {
	for _, at := range mayBe(around(levelEnds()), 0) {
		w := wheel.New()
		isPut(t, w, at, 4, 1, api.OK)
		isAdvance(t, w, 0, nil, api.OK)
		isAdvance(t, w, at-1, nil, api.OK)
		is(t, w, at-1, 1, at)
		isAdvance(t, w, at-1, nil, api.OK)
		isAdvance(t, w, at-2, nil, api.ErrLate)
		is(t, w, at-1, 1, at)
		isAdvance(t, w, at, []int{4}, api.OK)
		is(t, w, at, 0, 0)
		isAdvance(t, w, at, nil, api.OK)
		isAdvance(t, w, at-1, nil, api.ErrLate)
		is(t, w, at, 0, 0)
		if at < api.MaxTick {
			w = wheel.New()
			isPut(t, w, at, 4, 1, api.OK)
			isAdvance(t, w, at+1, []int{4}, api.OK)
			is(t, w, at+1, 0, 0)
		}
	}
}

// TestLevelEnds has timers on both sides of each end of a level at once, and wheels that begin beside such ends.
func TestLevelEnds(t *testing.T) {
	ends := around(levelEnds())
	for _, now := range mayBe(around([]int{0, 64, 128, 4096, 4096 + 64, 8192, 1 << 18, 1 << 24, 1<<30 + 1<<12, 1 << 36, 1<<40 - 64}), -1) {
		x := newPair(t)
		x.advance(now)
		for i, at := range ends {
			x.put(at, i)
			x.put(now+at, -i)
		}
		if now < 1<<39 && x.w.Len() < 300 {
			t.Fatalf("%d timers at %d: too few", x.w.Len(), now)
		}
		for i, to := range ends {
			if i%3 == 0 {
				x.advance(to)
			}
		}
		x.ends()
	}
}

func TestAdvanceToTheEnd(t *testing.T) {
	w := wheel.New()
	isPut(t, w, api.MaxTick, 1, 1, api.OK)
	isPut(t, w, api.MaxTick-1, 2, 2, api.OK)
	isPut(t, w, api.MaxTick, 3, 3, api.OK)
	isAdvance(t, w, api.MaxTick+1, nil, api.ErrRange)
	is(t, w, 0, 3, api.MaxTick-1)
	isAdvance(t, w, api.MaxTick-1, []int{2}, api.OK)
	isAdvance(t, w, api.MaxTick+1, nil, api.ErrRange)
	is(t, w, api.MaxTick-1, 2, api.MaxTick)
	isAdvance(t, w, api.MaxTick, []int{1, 3}, api.OK)
	is(t, w, api.MaxTick, 0, 0)
	isAdvance(t, w, api.MaxTick, nil, api.OK)
	isAdvance(t, w, api.MaxTick-1, nil, api.ErrLate)
	isAdvance(t, w, api.MaxTick+1, nil, api.ErrRange)
	isPut(t, w, api.MaxTick, 1, 0, api.ErrLate)
	isPut(t, w, api.MaxTick+1, 1, 0, api.ErrRange)
	is(t, w, api.MaxTick, 0, 0)
}

func TestAdvanceRefuses(t *testing.T) {
	for _, now := range []int{0, 1, 63, 64, 65, 5000, 1 << 39, api.MaxTick - 1} {
		w := wheel.New()
		isAdvance(t, w, now, nil, api.OK)
		isPut(t, w, api.MaxTick, 1, 1, api.OK)
		isPut(t, w, now+1, 2, 2, api.OK)
		for _, to := range append(allOver(), now-1, now-64) {
			isAdvance(t, w, to, nil, api.ErrLate)
			is(t, w, now, 2, now+1)
		}
		for _, to := range tooFar() {
			isAdvance(t, w, to, nil, api.ErrRange)
			is(t, w, now, 2, now+1)
		}
		isAdvance(t, w, now, nil, api.OK)
		want := []int{2, 1}
		if now+1 == api.MaxTick {
			want = []int{1, 2}
		}
		isAdvance(t, w, api.MaxTick, want, api.OK)
	}
}

// TestNextIsNotTheFirstPut: timers of one slot stand by their deadlines all the same.
func TestNextIsNotTheFirstPut(t *testing.T) {
	for k := range 40 {
		far := 1 << k
		w := wheel.New()
		number := 0
		for at := min(2*far-1, far+20); at >= far; at-- {
			number++
			isPut(t, w, at, at, number, api.OK)
			is(t, w, 0, number, at)
		}
		for at := far; number > 0; at++ {
			isAdvance(t, w, at-1, nil, api.OK)
			is(t, w, at-1, number, at)
			isAdvance(t, w, at, []int{at}, api.OK)
			number--
		}
		is(t, w, min(2*far-1, far+20), 0, 0)
	}
}

// draw is a number of ticks: near, or far, at all lengths alike.
func draw(by *rand.Rand) int { return by.Intn(1 << by.Intn(41)) }

// pick is mostly a number that may be, at times a wrong one.
func pick(by *rand.Rand, now, far int) int {
	switch k := by.Intn(40); {
	case k == 0:
		return allOver()[by.Intn(len(allOver()))]
	case k == 1:
		return tooFar()[by.Intn(len(tooFar()))]
	case k == 2:
		return now - by.Intn(3)
	case k < 8:
		return now + draw(by)
	}
	return now + by.Intn(far)
}

// TestAsPlain plays puts, cancels and advances in a drawn order, each answer held against a plain list.
func TestAsPlain(t *testing.T) {
	told := map[string]map[api.Errno]int{"put": {}, "cancel": {}, "advance": {}}
	for seed := range int64(300) {
		by := rand.New(rand.NewSource(seed))
		x := newPair(t)
		far, step := 1+by.Intn(1<<(1+by.Intn(25))), 1+by.Intn(1<<(1+by.Intn(16)))
		for range 400 {
			switch k := by.Intn(10); {
			case k < 5:
				told["put"][x.put(pick(by, x.p.now, far), by.Intn(9)-4)]++
			case k < 7:
				told["cancel"][x.cancel(1+x.p.put-by.Intn(40))]++
			case k == 7 && len(x.p.l) > 0:
				told["cancel"][x.cancel(x.p.l[by.Intn(len(x.p.l))].number)]++
			case by.Intn(60) == 0:
				told["advance"][x.advance(pick(by, x.p.now, 1+draw(by)))]++
			default:
				to := x.p.now + by.Intn(step)
				if by.Intn(20) == 0 {
					to = pick(by, x.p.now, step)
					if to > x.p.now+step && to <= api.MaxTick { // not so far that all is over
						to = x.p.now + 1
					}
				}
				told["advance"][x.advance(to)]++
			}
		}
		x.ends()
	}
	for call, errors := range map[string][]api.Errno{"put": {api.OK, api.ErrLate, api.ErrRange}, "cancel": {api.OK, api.ErrNone}, "advance": {api.OK, api.ErrLate, api.ErrRange}} {
		for _, e := range errors {
			if told[call][e] < 40 {
				t.Errorf("%s: the error %d was told %d times: too few", call, e, told[call][e])
			}
		}
		if len(told[call]) != len(errors) {
			t.Errorf("%s: the errors told: %v", call, told[call])
		}
	}
}

// TestSmallTicks plays many calls within few ticks of one another, beside the ends of levels.
func TestSmallTicks(t *testing.T) {
	for i, begin := range []int{0, 50, 4090, 1<<18 - 8, 1<<24 - 8, 1<<30 - 8, 1<<36 - 8, 1<<40 - 4000} {
		by := rand.New(rand.NewSource(int64(i)))
		x := newPair(t)
		x.put(1<<40, -1)
		x.advance(begin)
		for range 3000 {
			switch by.Intn(5) {
			case 0, 1, 2:
				x.put(x.p.now+by.Intn(140), by.Intn(100))
			case 3:
				x.cancel(x.p.put - by.Intn(60))
			default:
				x.advance(x.p.now + by.Intn(3))
			}
		}
		x.ends()
	}
}

// Promise 14.3.

// planned is a timer that is put at a time of its own; and, if it is gone, canceled at a later one, ahead of its deadline.
type planned struct {
	timer
	putAt, cancelAt int
	gone            bool
}

// plan is timers with deadlines up to an end, put and canceled at some of the stops, in the order of their numbers.
func plan(seed int64, many, end int, stops []int) []planned {
	by := rand.New(rand.NewSource(seed))
	l := make([]planned, many)
	for i := range l {
		putAt := 0
		if by.Intn(3) == 0 {
			putAt = stops[by.Intn(len(stops))]
		}
		at := putAt + 1 + by.Intn(end-putAt)
		if by.Intn(3) == 0 {
			at = min(end, putAt+1+by.Intn(70))
		}
		l[i] = planned{timer: timer{at: at, id: i}, putAt: putAt}
		if stop := stops[by.Intn(len(stops))]; by.Intn(3) == 0 && stop >= putAt && stop < at {
			l[i].cancelAt, l[i].gone = stop, true
		}
	}
	slices.SortStableFunc(l, func(a, b planned) int { return cmp.Compare(a.putAt, b.putAt) })
	for i := range l {
		l[i].number = i + 1
	}
	return l
}

// told is the ids of timers that are not canceled, as they stand.
func told(l []planned) []int {
	var stay []planned
	for _, x := range l {
		if !x.gone {
			stay = append(stay, x)
		}
	}
	slices.SortStableFunc(stay, func(a, b planned) int { return cmp.Compare(a.at, b.at) })
	var ids []int
	for _, x := range stay {
		ids = append(ids, x.id)
	}
	return ids
}

// play puts and cancels timers at the stops, goes on from stop to stop by steps, and tells all that was told. Each must be told by the first step that comes to its deadline.
func play(t *testing.T, l []planned, stops []int, end int, step func(now int) int) []int {
	t.Helper()
	deadline := map[int]int{}
	for _, x := range l {
		deadline[x.id] = x.at
	}
	w := wheel.New()
	var ids []int
	goOn := func(to int) {
		for w.Now() < to {
			from := w.Now()
			next := min(to, step(from))
			now, e := w.Advance(next)
			if e != api.OK {
				t.Fatalf("Advance(%d) from %d: error %d", next, from, e)
			}
			for _, id := range now {
				if deadline[id] <= from || deadline[id] > next {
					t.Fatalf("from %d to %d: the timer with the deadline %d was told", from, next, deadline[id])
				}
			}
			ids = append(ids, now...)
		}
	}
	for _, stop := range stops {
		goOn(stop)
		for _, x := range l {
			if x.putAt == stop {
				isPut(t, w, x.at, x.id, x.number, api.OK)
			}
		}
		for _, x := range l {
			if x.gone && x.cancelAt == stop {
				isCancel(t, w, x.number, api.OK)
			}
		}
	}
	goOn(end)
	is(t, w, end, 0, 0)
	return ids
}

// drawStops is times at which something is put or canceled, 0 first.
func drawStops(seed int64, many, end int) []int {
	by := rand.New(rand.NewSource(seed))
	l := []int{0}
	for range many {
		l = append(l, by.Intn(end))
	}
	slices.Sort(l)
	return slices.Compact(l)
}

// TestInAnySteps: in one step, by ones, by tens, by leaps, the same are told, in the same order, each once.
func TestInAnySteps(t *testing.T) {
	for seed, end := range []int{1, 10, 63, 64, 65, 130, 4095, 4096, 4097, 9000, 70000, 1<<18 + 100} {
		stops := drawStops(int64(seed), 6, end)
		l := plan(int64(seed), 300, end, stops)
		want := told(l)
		by := rand.New(rand.NewSource(int64(seed)))
		for name, step := range map[string]func(now int) int{
			"one step": func(now int) int { return end },
			"ones":     func(now int) int { return now + 1 },
			"tens":     func(now int) int { return now + 10 },
			"63":       func(now int) int { return now + 63 },
			"64":       func(now int) int { return now + 64 },
			"65":       func(now int) int { return now + 65 },
			"leaps":    func(now int) int { return now + 1 + by.Intn(1<<(1+by.Intn(18))) },
		} {
			if ids := play(t, l, stops, end, step); !slices.Equal(ids, want) {
				t.Fatalf("end %d, by %s: %v; want %v", end, name, few(ids), few(want))
			}
		}
	}
}

// TestInLeaps goes to the greatest time, over all levels.
func TestInLeaps(t *testing.T) {
	for seed := range int64(30) {
		stops := drawStops(seed, 10, api.MaxTick)
		l := plan(seed, 600, api.MaxTick, stops)
		want := told(l)
		by := rand.New(rand.NewSource(seed))
		for name, step := range map[string]func(now int) int{
			"one step": func(now int) int { return api.MaxTick },
			"even":     func(now int) int { return now + 1<<30 + 1 },
			"doubled":  func(now int) int { return 2*now + 1 },
			"leaps":    func(now int) int { return now + 1 + by.Intn(1<<(20+by.Intn(20))) },
			"to ends":  func(now int) int { return (now>>30 + 1) << 30 },
		} {
			if ids := play(t, l, stops, api.MaxTick, step); !slices.Equal(ids, want) {
				t.Fatalf("seed %d, by %s: %v; want %v", seed, name, few(ids), few(want))
			}
		}
	}
}

// TestFromDeadlineToDeadline goes on by what Next tells: each step tells all timers of one deadline.
func TestFromDeadlineToDeadline(t *testing.T) {
	for seed := range int64(20) {
		l := plan(seed, 1000, 1<<(4+2*seed%37), []int{0})
		want := told(l)
		w := wheel.New()
		for _, x := range l {
			isPut(t, w, x.at, x.id, x.number, api.OK)
		}
		for _, x := range l {
			if x.gone {
				isCancel(t, w, x.number, api.OK)
			}
		}
		var ids []int
		for at, ok := w.Next(); ok; at, ok = w.Next() {
			isAdvance(t, w, at-1, nil, api.OK)
			now, e := w.Advance(at)
			if len(now) == 0 || e != api.OK {
				t.Fatalf("Advance(%d): %d timers, error %d", at, len(now), e)
			}
			ids = append(ids, now...)
		}
		if !slices.Equal(ids, want) {
			t.Fatalf("seed %d: %v; want %v", seed, few(ids), few(want))
		}
	}
}

// TestLaterPutOfTheSameDeadline: a timer that came down from level to level stands ahead of one of the same deadline that was put near it.
func TestLaterPutOfTheSameDeadline(t *testing.T) {
	for _, at := range mayBe(around(levelEnds()), 200) {
		w := wheel.New()
		isPut(t, w, at, 1, 1, api.OK)
		want := []int{1}
		for i, back := range []int{at / 2, at / 64, 150, 65, 64, 63, 3, 2, 1} {
			if now := at - back; now >= w.Now() {
				isAdvance(t, w, now, nil, api.OK)
				number, e := w.Put(at, 10+i)
				if e != api.OK || number != len(want)+1 {
					t.Fatalf("Put(%d) at %d: %d, error %d", at, now, number, e)
				}
				want = append(want, 10+i)
			}
		}
		isAdvance(t, w, at, want, api.OK)
	}
}

// Rules that hold everywhere.

// TestRefusedCallsChangeNothing plays the same calls with two wheels, one of them with refused ones between.
func TestRefusedCallsChangeNothing(t *testing.T) {
	for seed := range int64(60) {
		by := rand.New(rand.NewSource(seed))
		quiet, x := newPair(t), newPair(t)
		far := 2 + by.Intn(1<<(1+by.Intn(30)))
		for range 150 {
			for _, wrong := range append(allOver(), x.p.now-1) {
				isPut(t, x.w, wrong, 1, 0, api.ErrLate)
				isAdvance(t, x.w, wrong, nil, api.ErrLate)
				isCancel(t, x.w, min(wrong, 0), api.ErrNone)
			}
			isPut(t, x.w, x.p.now, 1, 0, api.ErrLate)
			for _, wrong := range tooFar() {
				isPut(t, x.w, wrong, 1, 0, api.ErrRange)
				isAdvance(t, x.w, wrong, nil, api.ErrRange)
				isCancel(t, x.w, wrong, api.ErrNone)
			}
			isCancel(t, x.w, x.p.put+1, api.ErrNone)
			x.looks()
			at, to, number := x.p.now+1+by.Intn(far), x.p.now+by.Intn(far/2), 1+by.Intn(1+x.p.put)
			for _, p := range []*pair{quiet, x} {
				p.put(at, to)
				p.put(at+1, at)
				p.cancel(number)
				if number%3 == 0 {
					p.advance(to)
				}
			}
		}
		quiet.ends()
		x.ends()
	}
}

// overwrite writes over a list, and over what lies behind its length.
func overwrite(l []int) {
	l = l[:cap(l)]
	for i := range l {
		l[i] = -7
	}
}

// TestAnswersAreNew: lists that were answered are written over, and no other answer changes.
func TestAnswersAreNew(t *testing.T) {
	for seed := range int64(40) {
		by := rand.New(rand.NewSource(seed))
		x := newPair(t)
		var lists, wants [][]int
		for range 60 {
			for range by.Intn(30) {
				x.put(x.p.now+1+by.Intn(300), by.Intn(1000))
			}
			to := x.p.now + by.Intn(150)
			want, _ := x.p.Advance(to)
			l, e := x.w.Advance(to)
			if !slices.Equal(l, want) || e != api.OK {
				t.Fatalf("Advance(%d): %v, error %d; want %v", to, l, e, want)
			}
			x.looks()
			lists, wants = append(lists, l), append(wants, slices.Clone(want))
			if by.Intn(2) == 0 {
				k := by.Intn(len(lists))
				overwrite(lists[k])
				lists[k], wants[k] = nil, nil
			}
			for k := range lists {
				if !slices.Equal(lists[k], wants[k]) {
					t.Fatalf("an answer became %v; it was %v", lists[k], wants[k])
				}
			}
			x.looks()
		}
		x.ends()
	}
}

// TestWheelsDoNotKnowOfOneAnother: what one is told, another does not have.
func TestWheelsDoNotKnowOfOneAnother(t *testing.T) {
	a, b := wheel.New(), wheel.New()
	isPut(t, a, 5, 1, 1, api.OK)
	isPut(t, a, 70, 2, 2, api.OK)
	is(t, b, 0, 0, 0)
	isCancel(t, b, 1, api.ErrNone)
	isPut(t, b, 9, 3, 1, api.OK)
	isAdvance(t, b, 80, []int{3}, api.OK)
	is(t, a, 0, 2, 5)
	isCancel(t, a, 1, api.OK)
	isPut(t, a, 60, 4, 3, api.OK)
	isPut(t, b, 60, 4, 0, api.ErrLate)
	isPut(t, b, 90, 4, 2, api.OK)
	isAdvance(t, a, 70, []int{4, 2}, api.OK)
	is(t, b, 80, 1, 90)
	is(t, wheel.New(), 0, 0, 0)
	by := rand.New(rand.NewSource(9))
	l := []*pair{newPair(t), newPair(t), newPair(t)}
	for range 3000 {
		x := l[by.Intn(len(l))]
		switch by.Intn(4) {
		case 0, 1:
			x.put(x.p.now+by.Intn(500), by.Intn(9))
		case 2:
			x.cancel(x.p.put - by.Intn(9))
		default:
			x.advance(x.p.now + by.Intn(90))
		}
		for _, other := range l {
			other.looks()
		}
	}
}

// TestSameCallsTellTheSame, again and again, and at the same time.
func TestSameCallsTellTheSame(t *testing.T) {
	stops := drawStops(3, 20, 1<<20)
	l := plan(3, 900, 1<<20, stops)
	want := told(l)
	var everyone sync.WaitGroup
	lists := make([][]int, 8)
	for k := range lists {
		everyone.Go(func() {
			w := wheel.New()
			for _, stop := range stops {
				ids, _ := w.Advance(stop)
				lists[k] = append(lists[k], ids...)
				for _, x := range l {
					if x.putAt == stop {
						number, _ := w.Put(x.at, x.id)
						if x.gone {
							w.Cancel(number)
						}
					}
				}
			}
			ids, _ := w.Advance(1 << 20)
			lists[k] = append(lists[k], ids...)
		})
	}
	everyone.Wait()
	for _, ids := range lists {
		if !slices.Equal(ids, want) {
			t.Fatalf("%v; want %v", few(ids), few(want))
		}
	}
}
