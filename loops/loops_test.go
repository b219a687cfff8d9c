package loops_test

import (
	"math"
	"math/rand"
	"slices"
	"strings"
	"testing"

	"dovecote/api"
	"dovecote/loops"
)

const most = 1 << 20 // ticks of a window, and of a deadline

func TestExample(t *testing.T) {
	l, e := loops.New(10, 5, 0)
	is(t, e, api.OK)
	is(t, l.Sent(1, "0123456789abcdef"), api.OK)
	for _, c := range []struct {
		at int
		up bool
	}{{5, false}, {6, true}, {15, true}, {16, false}} {
		if up, e := l.Alarm(c.at); up != c.up || e != api.OK {
			t.Errorf("at %d the alarm is up: %v, error %d", c.at, up, e)
		}
	}
}

// 23.1: New

func TestNew(t *testing.T) {
	spans := []int{math.MinInt, -most, -1, 0, 1, 2, 1000, most - 1, most, most + 1, most + 2, 1<<32 + 1, math.MaxInt}
	thresholds := []int{math.MinInt, -2, -1, 0, 1, 2, 4095, 4096, 4097, 1<<32 + 1, math.MaxInt}
	for _, window := range spans {
		for _, deadline := range spans {
			for _, threshold := range thresholds {
				l, e := loops.New(window, deadline, threshold)
				_, want := newPlain(window, deadline, threshold)
				is(t, e, want)
				if (l == nil) != (e != api.OK) {
					t.Fatalf("there is a ledger: %v, beside the error %d", l != nil, e)
				}
				if l != nil && (l.Now() != 0 || l.Open() != 0) {
					t.Fatalf("a new ledger has the tick %d, and %d open loops", l.Now(), l.Open())
				}
			}
		}
	}
	for _, c := range []struct {
		window, deadline, threshold int
		want                        api.Errno
	}{
		{1, 1, 0, api.OK}, {most, most, api.MaxItems, api.OK},
		{0, 1, 0, api.ErrRange}, {-1, 1, 0, api.ErrRange}, {most + 1, 1, 0, api.ErrRange},
		{1, 0, 0, api.ErrRange}, {1, -1, 0, api.ErrRange}, {1, most + 1, 0, api.ErrRange},
		{1, 1, -1, api.ErrRange}, {1, 1, api.MaxItems + 1, api.ErrRange},
	} {
		_, e := loops.New(c.window, c.deadline, c.threshold)
		is(t, e, c.want)
	}
}

// 23.1: ticks

// TestTicks: those that are refused, at ledgers of several ticks, with loops and without.
func TestTicks(t *testing.T) {
	for _, now := range []int{0, 1, 2, 100, 1 << 32, api.MaxTick - 1, api.MaxTick} {
		for _, window := range []int{1, 50, most} {
			x := opened(t, window, 7, 0)
			refused := func() {
				t.Helper()
				for _, at := range []int{now - 1, -1, now - 2, -2, now - most, -api.MaxTick, math.MinInt, math.MinInt + 1} {
					if at < now {
						x.refuses(at, api.ErrLate)
					}
				}
				for _, at := range []int{api.MaxTick + 1, api.MaxTick + 2, 1 << 41, math.MaxInt - 1, math.MaxInt} {
					x.refuses(at, api.ErrRange)
				}
			}
			x.tells(now, 0)
			refused()
			x.sends(now, id(0), id(1), id(2))
			x.brings(now, id(2))
			refused()
			x.tells(now, 0)
			x.opens(2)
		}
	}
}

// TestEachCallHasItsTick: the ledger's tick is that of the call behind it, also where the call is refused for another reason.
func TestEachCallHasItsTick(t *testing.T) {
	calls := []struct {
		name string
		call func(x *pair, at int) api.Errno
		want api.Errno
	}{
		{"Sent", func(x *pair, at int) api.Errno { return x.sent(at, id(7)) }, api.OK},
		{"Sent of no id", func(x *pair, at int) api.Errno { return x.sent(at, "no id") }, api.ErrForm},
		{"Sent again", func(x *pair, at int) api.Errno { return x.sent(at, id(2)) }, api.ErrThere},
		{"Back", func(x *pair, at int) api.Errno { return x.back(at, id(2)) }, api.OK},
		{"Back of none", func(x *pair, at int) api.Errno { return x.back(at, id(8)) }, api.ErrNone},
		{"Back of no id", func(x *pair, at int) api.Errno { return x.back(at, "no id") }, api.ErrNone},
		{"Back again", func(x *pair, at int) api.Errno { return x.back(at, id(3)) }, api.ErrThere},
		{"Late", func(x *pair, at int) api.Errno { _, e := x.late(at); return e }, api.OK},
		{"Alarm", func(x *pair, at int) api.Errno { _, e := x.alarm(at); return e }, api.OK},
	}
	for _, c := range calls {
		for _, leap := range []int{0, 1, 2, 10, 13} {
			x := opened(t, 10, 5, 0)
			x.sends(1, id(1))
			x.sends(3, id(2), id(3))
			x.brings(4, id(3))
			if e := c.call(x, 4+leap); e != c.want {
				t.Fatalf("%s: the error is %d; want %d", c.name, e, c.want)
			}
			if x.l.Now() != 4+leap {
				t.Fatalf("%s at %d: the ledger's tick is %d", c.name, 4+leap, x.l.Now())
			}
			x.refuses(3+leap, api.ErrLate)
			// The loop that was sent at 1 is forgotten from 16 on.
			want := api.OK
			if leap >= 12 {
				want = api.ErrNone
			}
			is(t, x.back(4+leap, id(1)), want)
		}
	}
}

// TestFullIsRefusedAtItsTick: a loop for which there is no room moves the ledger's tick.
func TestFullIsRefusedAtItsTick(t *testing.T) {
	x := filled(t, 10, 5, 1)
	is(t, x.sent(15, id(4096)), api.ErrLong)
	if x.l.Now() != 15 {
		t.Fatalf("the ledger's tick is %d", x.l.Now())
	}
	x.refuses(14, api.ErrLate)
	x.sends(16, id(4096))
}

// TestLeapToTheEnd: all is forgotten at api.MaxTick, which is a tick like any other.
func TestLeapToTheEnd(t *testing.T) {
	for _, span := range []int{1, 2, 1000, most} {
		x := opened(t, span, span, 0)
		x.sends(0, id(1), id(2))
		x.brings(0, id(1))
		x.tells(api.MaxTick, 0)
		x.opens(0)
		is(t, x.back(api.MaxTick, id(2)), api.ErrNone)
		x.sends(api.MaxTick, id(1), id(2))
		is(t, x.sent(api.MaxTick, id(1)), api.ErrThere)
		x.tells(api.MaxTick, 0)
		x.opens(2)
		x.brings(api.MaxTick, id(1))
		is(t, x.back(api.MaxTick, id(1)), api.ErrThere)
		x.opens(1)
		x.refuses(api.MaxTick+1, api.ErrRange)
		x.refuses(api.MaxTick-1, api.ErrLate)
	}
	// A loop that is late at the end.
	x := opened(t, most, 3, 0)
	x.sends(api.MaxTick-3, id(1))
	x.sends(api.MaxTick-2, id(2))
	x.tells(api.MaxTick, 1)
}

// 23.2: ids

// ids are such as may be, of all kinds of bytes.
func ids() (l []string) {
	for _, s := range []string{"\x00", "\xff", " ", "i", "\x80", "\n"} {
		l = append(l, strings.Repeat(s, 16))
	}
	return append(l, "0123456789abcdef", "éèüöéèüö", "\x00123456789abcdef", "0123456789abcde\x00")
}

func TestIdsOfAllBytes(t *testing.T) {
	x := opened(t, 10, 5, 3)
	x.sends(1, ids()...)
	x.opens(len(ids()))
	for _, s := range ids() {
		is(t, x.sent(2, s), api.ErrThere)
	}
	for i, s := range ids() {
		x.tells(6, len(ids())-i)
		x.brings(6, s)
		is(t, x.back(6, s), api.ErrThere)
		is(t, x.sent(6, s), api.ErrThere)
	}
	x.tells(6, 0)
}

// TestIdsLikeAnother: such as differ in one bit alone are another loop's.
func TestIdsLikeAnother(t *testing.T) {
	for bit := range 128 {
		b := []byte(id(0))
		b[bit/8] ^= 1 << (bit % 8)
		x := opened(t, 10, 5, 0)
		x.sends(1, id(0))
		is(t, x.back(1, string(b)), api.ErrNone)
		x.sends(1, string(b))
		x.brings(2, string(b))
		x.opens(1)
		x.brings(2, id(0))
	}
}

// TestWrongIds: of Sent no id, of Back none of a loop, also where those that they are cut from are loops'.
func TestWrongIds(t *testing.T) {
	x := opened(t, 10, 5, 0)
	refused := func() {
		t.Helper()
		for _, s := range wrongIds() {
			is(t, x.sent(2, s), api.ErrForm)
			is(t, x.back(2, s), api.ErrNone)
		}
	}
	refused()
	x.opens(0)
	x.sends(2, id(0), strings.Repeat("i", 16), strings.Repeat("é", 8))
	refused()
	x.opens(3)
	x.brings(2, id(0))
	refused()
	x.opens(2)
	long := strings.Repeat("i", 16) + id(0) + "more"
	for n := range len(long) {
		want, wantBack := api.ErrForm, api.ErrNone
		if n == 16 {
			want, wantBack = api.ErrThere, api.OK
		}
		is(t, x.sent(3, long[:n]), want)
		is(t, x.back(3, long[:n]), wantBack)
	}
}

// 23.2: Sent and Back

func TestThereAlready(t *testing.T) {
	x := opened(t, 10, 5, 0)
	x.sends(1, id(1))
	for at := 1; at <= 15; at++ {
		is(t, x.sent(at, id(1)), api.ErrThere)
	}
	x.sends(16, id(1))
	x.brings(17, id(1))
	for at := 17; at <= 30; at++ {
		is(t, x.sent(at, id(1)), api.ErrThere)
		is(t, x.back(at, id(1)), api.ErrThere)
	}
	is(t, x.back(31, id(1)), api.ErrNone)
	x.sends(31, id(1))
	x.brings(31, id(1))
}

// TestNone: of an id that never was sent, of one that comes later, and of one that is forgotten.
func TestNone(t *testing.T) {
	x := opened(t, 4, 2, 0)
	is(t, x.back(0, id(1)), api.ErrNone)
	is(t, x.back(3, id(1)), api.ErrNone)
	x.sends(3, id(1))
	is(t, x.back(3, id(2)), api.ErrNone)
	x.sends(4, id(2))
	x.brings(8, id(1))
	is(t, x.back(9, id(1)), api.ErrNone)
	x.brings(9, id(2))
	is(t, x.back(9, id(2)), api.ErrThere)
	is(t, x.back(10, id(2)), api.ErrNone)
}

// spans are windows and deadlines, small and great ones.
func spans() []int { return []int{1, 2, 3, 10, 1000, most - 1, most} }

// TestForgotten: a loop's id is there one tick ahead of just window and deadline behind its sending, and not there just then, whether it came back or not.
func TestForgotten(t *testing.T) {
	for _, window := range spans() {
		for _, deadline := range spans() {
			for _, sent := range []int{0, 1, 1000, most, api.MaxTick - window - deadline} {
				for _, back := range []bool{false, true} {
					x := opened(t, window, deadline, 0)
					x.sends(sent, id(1))
					there, open := api.OK, 1
					if back {
						x.brings(sent, id(1))
						there, open = api.ErrThere, 0
					}
					end := sent + window + deadline
					is(t, x.sent(end-1, id(1)), api.ErrThere)
					x.tells(end-1, open)
					x.opens(open)
					is(t, x.back(end-1, id(1)), there)
					x.tells(end-1, 0)
					is(t, x.back(end, id(1)), api.ErrNone)
					x.tells(end, 0)
					x.opens(0)
					x.sends(end, id(1))
					x.opens(1)
				}
			}
		}
	}
}

// filled has api.MaxItems loops, a quarter of them sent at a tick and each of the next ones.
func filled(t *testing.T, window, deadline, at int) *pair {
	t.Helper()
	x := opened(t, window, deadline, 100)
	for k := range api.MaxItems {
		if e := x.l.Sent(at+k/1024, id(k)); e != api.OK {
			t.Fatalf("the loop %d is refused with %d", k, e)
		}
		x.p.loops = append(x.p.loops, plainLoop{id(k), at + k/1024, -1})
	}
	x.p.now = at + 3
	x.opens(api.MaxItems)
	x.stands()
	return x
}

// TestFull: there is no room for one more loop, whichever came back, till some are forgotten.
func TestFull(t *testing.T) {
	t.Parallel()
	x := filled(t, 10, 5, 1)
	is(t, x.sent(4, id(4096)), api.ErrLong)
	for _, k := range []int{0, 1, 1024, 4095} {
		is(t, x.sent(4, id(k)), api.ErrThere)
		x.brings(4, id(k))
		is(t, x.sent(4, id(k)), api.ErrThere)
		is(t, x.sent(4, id(4096)), api.ErrLong)
	}
	for _, s := range wrongIds() {
		is(t, x.sent(5, s), api.ErrForm)
	}
	x.tells(5, 0)
	x.tells(6, 1024-2)
	x.tells(9, 4096-4)
	for at := 9; at <= 15; at++ {
		is(t, x.sent(at, id(4096)), api.ErrLong)
	}
	// From 16 on those that were sent at 1 are forgotten.
	for k := range 1024 {
		if e := x.l.Sent(16, id(4096+k)); e != api.OK {
			t.Fatalf("the loop %d is refused with %d", 4096+k, e)
		}
		x.p.loops = append(x.p.loops, plainLoop{id(4096 + k), 16, -1})
	}
	x.p.now = 16
	is(t, x.sent(16, id(6000)), api.ErrLong)
	is(t, x.sent(16, id(0)), api.ErrLong)
	is(t, x.sent(16, id(1024)), api.ErrThere)
	x.tells(16, 3*1024-2)
	x.opens(4*1024 - 2)
	x.sends(17, id(0), id(6000))
	x.tells(17, 2*1024-1)
	x.tells(19, 0)
	x.opens(1026)
}

// TestFullAtOnce: all at one tick, and none of them any more just window and deadline behind it.
func TestFullAtOnce(t *testing.T) {
	t.Parallel()
	x := opened(t, 1, 1, api.MaxItems-1)
	for round := range 3 {
		at := 2*round + 5
		for k := range api.MaxItems {
			if e := x.l.Sent(at, id(k)); e != api.OK {
				t.Fatalf("the loop %d is refused with %d", k, e)
			}
		}
		is(t, x.l.Sent(at, id(5000)), api.ErrLong)
		is(t, x.l.Sent(at+1, id(5000)), api.ErrLong)
		if up, e := x.l.Alarm(at + 1); !up || e != api.OK {
			t.Fatalf("with as many late loops as there may be the alarm is up: %v, error %d", up, e)
		}
		is(t, x.l.Back(at+1, id(77)), api.OK)
		if up, e := x.l.Alarm(at + 1); up || e != api.OK {
			t.Fatalf("with one late loop less the alarm is up: %v, error %d", up, e)
		}
		is(t, x.l.Sent(at+1, id(5000)), api.ErrLong)
	}
	if x.l.Open() != api.MaxItems-1 {
		t.Fatalf("%d loops are open", x.l.Open())
	}
	if many, e := x.l.Late(11); many != 0 || e != api.OK || x.l.Open() != 0 {
		t.Fatalf("%d loops are late, and %d open, error %d", many, x.l.Open(), e)
	}
}

// 23.3

// TestEachLoopAtEachTick: one loop, sent and back at each of a few ticks, at all ticks about.
func TestEachLoopAtEachTick(t *testing.T) {
	for _, c := range [][2]int{{1, 1}, {1, 4}, {4, 1}, {3, 2}, {5, 5}, {2, 7}} {
		window, deadline := c[0], c[1]
		for sent := range 4 {
			for back := sent; back <= sent+window+deadline; back++ {
				x := opened(t, window, deadline, 0)
				for at := range sent + window + deadline + 3 {
					if at == sent {
						x.sends(at, id(1))
					}
					was := at >= sent && at-sent < window+deadline
					late := 0
					if was && at >= sent+deadline && at <= back {
						late = 1
					}
					// It comes back at a tick, and behind that no more is late then.
					x.tells(at, late)
					if at == back && was {
						x.brings(at, id(1))
						x.tells(at, 0)
					}
				}
			}
		}
	}
}

// TestLateAtTheEdges of windows and deadlines of all sizes: at just the deadline ago, at just both ago, and a tick beside.
func TestLateAtTheEdges(t *testing.T) {
	for _, window := range spans() {
		for _, deadline := range spans() {
			for _, sent := range []int{0, 1, most, api.MaxTick - window - deadline} {
				x := opened(t, window, deadline, 0)
				x.sends(sent, id(1))
				x.tells(sent, 0)
				x.tells(sent+deadline-1, 0)
				x.tells(sent+deadline, 1)
				x.tells(sent+window+deadline-1, 1)
				x.opens(1)
				x.tells(sent+window+deadline, 0)
				x.opens(0)
			}
		}
	}
}

// TestBackAtTheEdges: one that comes back at the tick that is asked, one ahead of it, and one behind.
func TestBackAtTheEdges(t *testing.T) {
	for _, deadline := range spans() {
		x := opened(t, 10, deadline, 0)
		x.sends(3, id(1), id(2), id(3), id(4))
		x.brings(3+deadline-1, id(1))
		x.tells(3+deadline-1, 0)
		x.opens(3)
		x.tells(3+deadline, 3)
		x.brings(3+deadline, id(2))
		x.tells(3+deadline, 2)
		x.brings(3+deadline+1, id(3))
		x.tells(3+deadline+1, 1)
		x.tells(3+deadline+9, 1)
		x.opens(1)
		x.brings(3+deadline+9, id(4))
		x.tells(3+deadline+9, 0)
	}
}

// TestThresholds: with just so many late loops the alarm is not up, with one more it is.
func TestThresholds(t *testing.T) {
	for _, threshold := range []int{0, 1, 2, 3, 50, 1000, 4094, 4095, 4096} {
		l, e := loops.New(10, 5, threshold)
		is(t, e, api.OK)
		late := func(at, want int) {
			t.Helper()
			if many, e := l.Late(at); many != want || e != api.OK {
				t.Fatalf("at %d %d loops are late, error %d; want %d", at, many, e, want)
			}
			if up, e := l.Alarm(at); up != (want > threshold) || e != api.OK {
				t.Fatalf("with %d late loops, and the threshold %d, the alarm is up: %v, error %d", want, threshold, up, e)
			}
		}
		for k := range threshold {
			is(t, l.Sent(1, id(k)), api.OK)
		}
		more := min(threshold+1, api.MaxItems) - threshold
		for k := range more {
			is(t, l.Sent(2, id(threshold+k)), api.OK)
		}
		late(5, 0)
		late(6, threshold)
		late(7, threshold+more)
		if threshold > 0 {
			is(t, l.Back(7, id(0)), api.OK)
			late(7, threshold+more-1)
			late(16, more)
		}
		late(17, 0)
	}
}

// TestOpen: those that are late, and those that are not yet, but none that came back.
func TestOpen(t *testing.T) {
	x := opened(t, 10, 5, 0)
	for k := range 40 {
		x.sends(k, id(k))
		x.opens(min(k+1, 15))
	}
	for k := 39; k >= 25; k-- {
		x.brings(39, id(k))
		x.opens(k - 25)
	}
	x.tells(60, 0)
	x.opens(0)
}

// 23.4

// TestNoAlarm: as long as each loop comes back less than the deadline behind its sending, whatever is asked when.
func TestNoAlarm(t *testing.T) {
	t.Parallel()
	for k := range 200 {
		by := rand.New(rand.NewSource(int64(k)))
		window, deadline := 1+by.Intn(20), 1+by.Intn(10)
		x := opened(t, window, deadline, 0)
		due := map[int][]string{} // by the ticks at which they come back
		for at := range 150 {
			for range by.Intn(3) {
				s := id(by.Intn(1 << 30))
				x.sends(at, s)
				back := at + by.Intn(deadline)
				due[back] = append(due[back], s)
			}
			if by.Intn(2) == 0 {
				x.tells(at, 0)
			}
			x.brings(at, due[at]...)
			x.tells(at, 0)
		}
	}
}

// TestAlarmWhenDue: one loop that comes back just the deadline behind its sending is late if that is asked ahead of it.
func TestAlarmWhenDue(t *testing.T) {
	for _, window := range spans() {
		for _, deadline := range spans() {
			x := opened(t, window, deadline, 0)
			x.sends(7, id(1))
			x.tells(7+deadline, 1)
			x.brings(7+deadline, id(1))
			x.tells(7+deadline, 0)
			x = opened(t, window, deadline, 0)
			x.sends(7, id(1))
			x.brings(7+deadline, id(1))
			x.tells(7+deadline, 0)
		}
	}
}

// TestAlarm: more loops than the threshold, sent within as many ticks as the window has, never come back, among others that do: the alarm is up the deadline behind the last of these.
func TestAlarm(t *testing.T) {
	t.Parallel()
	for k := range 300 {
		by := rand.New(rand.NewSource(int64(k)))
		window, deadline, threshold := 1+by.Intn(20), 1+by.Intn(10), by.Intn(8)
		x := opened(t, window, deadline, threshold)
		begin := by.Intn(30)
		var lost []int // their ticks, one more than the threshold
		for range threshold + 1 {
			lost = append(lost, begin+by.Intn(window))
		}
		slices.Sort(lost)
		last := lost[threshold]
		for at := range last + deadline {
			for i, tick := range lost {
				if tick == at {
					x.sends(at, "lost"+id(i)[4:])
				}
			}
			if by.Intn(2) == 0 {
				x.sends(at, id(at))
				x.brings(at, id(at))
			}
			x.alarm(at)
			if up, e := x.alarm(at); up || e != api.OK {
				t.Fatalf("at %d the alarm is up, ahead of %d", at, last+deadline)
			}
		}
		if up, e := x.alarm(last + deadline); !up || e != api.OK {
			t.Fatalf("the alarm is up: %v, error %d", up, e)
		}
	}
}

// TestNotWithinTheWindow: one loop less, or as many that were sent within one tick more than the window has, make no alarm.
func TestNotWithinTheWindow(t *testing.T) {
	for _, window := range []int{1, 2, 10, 1000, most} {
		for _, threshold := range []int{0, 1, 5} {
			x := opened(t, window, 3, threshold)
			for k := range threshold {
				x.sends(window, id(k))
			}
			x.tells(window+3, threshold)
			x = opened(t, window, 3, threshold)
			x.sends(1, id(0))
			for k := range threshold {
				x.sends(1+window, id(1+k))
			}
			x.tells(3+window, 1)
			x.tells(4+window, threshold)
		}
	}
}
