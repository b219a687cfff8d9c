package loops_test

import (
	"fmt"
	"math/rand"
	"strings"
	"sync"
	"testing"
	"unsafe"

	"dovecote/api"
	"dovecote/loops"
)

// Mixtures.

// play is a pair of ledgers, and of which loops its calls are.
type play struct {
	*pair
	ids   int
	wrong bool // whether some calls are such as are refused for the tick, or the id
}

// measures are windows, deadlines and thresholds, small and great ones.
func measures() [][3]int {
	return [][3]int{
		{1, 1, 0}, {1, 3, 0}, {3, 1, 1}, {2, 3, 1}, {10, 5, 0}, {10, 5, 3}, {20, 30, 2}, {100, 7, 20},
		{1, most, 0}, {most, 1, 2}, {most, most, 4096}, {most - 1, most, 5}, {1000, most, 1},
	}
}

// drawnTick is the ledger's own, the next one, or one that leaps: by a little, or to the edges of what is late, or forgotten, or far away.
func (x *play) drawnTick(by *rand.Rand) int {
	now, window, deadline := x.p.now, x.p.window, x.p.deadline
	if x.wrong && by.Intn(20) == 0 {
		return []int{now - 1, -1, now - by.Intn(50), api.MaxTick + 1, api.MaxTick + 1 + by.Intn(50), by.Int() - by.Int()}[by.Intn(6)]
	}
	at := now
	switch k := by.Intn(40); {
	case k < 20:
	case k < 30:
		at++
	case k < 34:
		at += by.Intn(4)
	case k < 36:
		at += by.Intn(1 + (window+deadline)/4)
	case k < 39:
		if l := x.p.loops; len(l) > 0 {
			o := l[by.Intn(len(l))]
			at = o.sent + []int{deadline, window + deadline}[by.Intn(2)] + by.Intn(3) - 1
		}
	default:
		at += by.Intn(2 * (window + deadline))
	}
	return min(max(at, now), api.MaxTick)
}

func (x *play) drawnId(by *rand.Rand) string {
	if x.wrong && by.Intn(20) == 0 {
		l := wrongIds()
		return l[by.Intn(len(l))]
	}
	return id(by.Intn(x.ids))
}

// calls asks for one drawn call, and tells its answer.
func (x *play) calls(by *rand.Rand) string {
	x.t.Helper()
	at := x.drawnTick(by)
	switch by.Intn(8) {
	case 0:
		many, e := x.late(at)
		return fmt.Sprint("late ", many, e)
	case 1:
		up, e := x.alarm(at)
		return fmt.Sprint("alarm ", up, e)
	case 2, 3, 4:
		return fmt.Sprint("back ", x.back(at, x.drawnId(by)))
	}
	return fmt.Sprint("sent ", x.sent(at, x.drawnId(by)))
}

// TestAsPlain: each answer, and the tick and the open loops behind it, are those of a plain ledger.
func TestAsPlain(t *testing.T) {
	t.Parallel()
	said := map[string]int{}
	for k := range 390 {
		by := rand.New(rand.NewSource(int64(k)))
		m := measures()[k%13]
		x := &play{opened(t, m[0], m[1], m[2]), []int{2, 5, 12, 40, 1 << 20}[k%5], k%3 == 0}
		if k%7 == 0 {
			x.tells(api.MaxTick-by.Intn(3*(m[0]+m[1])), 0)
		}
		for range 400 {
			said[x.calls(by)]++
		}
	}
	for _, s := range []string{"sent 0", "sent 1", "sent 3", "sent 6", "sent 140", "back 0", "back 1", "back 5", "back 6", "back 140", "late 0 0", "late 1 0", "late 2 0", "late 0 1", "late 0 140", "alarm false 0", "alarm true 0", "alarm false 1", "alarm false 140"} {
		if said[s] < 50 {
			t.Errorf("%s was told %d times: too few of %v", s, said[s], said)
		}
	}
}

// TestManyAsPlain: drawn plays of ledgers that are full most of the time.
func TestManyAsPlain(t *testing.T) {
	t.Parallel()
	said := map[api.Errno]int{}
	for k := range 3 {
		by := rand.New(rand.NewSource(int64(k)))
		x := filled(t, 40+k, 20, 5)
		for step := range 900 {
			at := x.p.now
			if by.Intn(9) == 0 {
				at++
			}
			switch step % 5 {
			case 0, 1, 2:
				said[x.sent(at, id(by.Intn(9000)))]++
			case 3:
				x.back(at, id(by.Intn(9000)))
			case 4:
				x.late(at)
			}
		}
	}
	for _, e := range []api.Errno{api.OK, api.ErrThere, api.ErrLong} {
		if said[e] < 100 {
			t.Errorf("Sent told the error %d %d times: too few", e, said[e])
		}
	}
}

// TestShortPlays: all plays of five of these calls, each at the tick of the one ahead of it, or at the next one.
func TestShortPlays(t *testing.T) {
	t.Parallel()
	calls := []func(x *pair, at int){
		func(x *pair, at int) { x.sent(at, id(1)) },
		func(x *pair, at int) { x.sent(at, id(2)) },
		func(x *pair, at int) { x.back(at, id(1)) },
		func(x *pair, at int) { x.late(at) },
		func(x *pair, at int) { x.alarm(at + 1) },
	}
	few := []int{0, 1}
	each := len(calls) * len(few)
	many := 1
	for range 5 {
		many *= each
	}
	for _, m := range [][3]int{{1, 1, 0}, {2, 1, 1}, {1, 2, 0}} {
		for play := range many {
			l, _ := loops.New(m[0], m[1], m[2])
			p, _ := newPlain(m[0], m[1], m[2])
			x := &pair{t, l, p}
			for n, k := play, 0; k < 5; n, k = n/each, k+1 {
				calls[n%each%len(calls)](x, x.p.now+few[n%each/len(calls)])
			}
		}
	}
}

// Rules that hold everywhere.

// TestRefusedForTheTickChangesNothing plays the same calls with two ledgers, one of them with refused ones between.
func TestRefusedForTheTickChangesNothing(t *testing.T) {
	t.Parallel()
	for k := range 26 {
		m := measures()[k%13]
		calm, x := &play{opened(t, m[0], m[1], m[2]), 6, false}, &play{opened(t, m[0], m[1], m[2]), 6, false}
		for step := range 120 {
			if x.p.now > 0 {
				x.refuses(x.p.now-1, api.ErrLate)
			}
			x.refuses(-1, api.ErrLate)
			x.refuses(api.MaxTick+1, api.ErrRange)
			_, e := loops.New(0, 0, -1)
			is(t, e, api.ErrRange)
			seed := int64(1000*k + step)
			said, again := calm.calls(rand.New(rand.NewSource(seed))), x.calls(rand.New(rand.NewSource(seed)))
			if said != again || calm.l.Now() != x.l.Now() || calm.l.Open() != x.l.Open() {
				t.Fatalf("%s was told, with refused calls between %s", said, again)
			}
		}
	}
}

// TestRefusedOtherwiseMovesTheTickAlone: one ledger has calls that are refused for their ids, another one is asked for what is late at the same ticks.
func TestRefusedOtherwiseMovesTheTickAlone(t *testing.T) {
	t.Parallel()
	for k := range 26 {
		m := measures()[k%13]
		calm, x := &play{opened(t, m[0], m[1], m[2]), 6, false}, &play{opened(t, m[0], m[1], m[2]), 6, false}
		for step := range 120 {
			seed := int64(1000*k + step)
			at := x.drawnTick(rand.New(rand.NewSource(-seed)))
			calm.late(at)
			for _, s := range wrongIds() {
				is(t, x.sent(at, s), api.ErrForm)
				is(t, x.back(at, s), api.ErrNone)
			}
			is(t, x.back(at, id(1<<30)), api.ErrNone)
			for _, i := range x.p.known(at) {
				is(t, x.sent(at, x.p.loops[i].id), api.ErrThere)
				if x.p.loops[i].back >= 0 {
					is(t, x.back(at, x.p.loops[i].id), api.ErrThere)
				}
			}
			said, again := calm.calls(rand.New(rand.NewSource(seed))), x.calls(rand.New(rand.NewSource(seed)))
			if said != again || calm.l.Now() != x.l.Now() || calm.l.Open() != x.l.Open() {
				t.Fatalf("%s was told, with refused calls between %s", said, again)
			}
		}
	}
}

// TestAsksChangeNothing: neither what is asked again at the same tick, nor the tick and the open loops.
func TestAsksChangeNothing(t *testing.T) {
	x := opened(t, 10, 5, 1)
	x.sends(1, id(1), id(2), id(3))
	x.brings(2, id(3))
	for at := 2; at < 18; at++ {
		late := 0
		if at >= 6 && at < 16 {
			late = 2
		}
		for range 10 {
			x.tells(at, late)
			x.stands()
		}
	}
}

// fresh is the same text in memory that may be written over.
func fresh(s string) string { return string([]byte(s)) }

// spoil writes a text over, as no program of the language could.
func spoil(s string) {
	b := unsafe.Slice(unsafe.StringData(s), len(s))
	for i := range b {
		b[i] = '?'
	}
}

// TestNothingHandedInIsKept: ids are written over once they were handed in; the ledger has its loops still.
func TestNothingHandedInIsKept(t *testing.T) {
	x := opened(t, 10, 5, 0)
	for _, s := range ids() {
		sent, again, back := fresh(s), fresh(s), fresh(s)
		x.sends(2, sent)
		spoil(sent)
		is(t, x.sent(2, again), api.ErrThere)
		spoil(again)
		x.brings(2, back)
		spoil(back)
		is(t, x.back(2, s), api.ErrThere)
		none := fresh(id(1))
		is(t, x.back(2, none), api.ErrNone)
		spoil(none)
	}
	is(t, x.back(2, strings.Repeat("?", 16)), api.ErrNone)
	x.sends(3, strings.Repeat("?", 16))
	x.opens(1)
	for _, s := range ids() {
		is(t, x.sent(4, s), api.ErrThere)
	}
}

// TestNothingHandedInIsChanged: the bytes of all ids are as they were, and what lies behind them.
func TestNothingHandedInIsChanged(t *testing.T) {
	for _, s := range append(append(wrongIds(), ids()...), id(1)) {
		b := []byte(s + "behind")
		in := unsafe.String(unsafe.SliceData(b), len(b))
		x := opened(t, 10, 5, 0)
		for _, at := range []int{1, 1, 8, 30, 3, api.MaxTick + 1} {
			x.sent(at, in[:len(s)])
			x.back(at, in[:len(s)])
			x.back(at, in[:len(s)])
			x.sent(at, in)
			x.back(at, in)
		}
		if string(b) != s+"behind" {
			t.Fatalf("it is %q; it was %q", b, s+"behind")
		}
	}
}

// TestLedgersDoNotKnowOfOneAnother, though they have loops of the same ids.
func TestLedgersDoNotKnowOfOneAnother(t *testing.T) {
	a, b := opened(t, 10, 5, 0), opened(t, 10, 5, 0)
	a.sends(1, id(1))
	b.opens(0)
	is(t, b.back(1, id(1)), api.ErrNone)
	b.sends(1, id(1), id(2))
	a.brings(2, id(1))
	b.opens(2)
	a.tells(6, 0)
	b.tells(6, 2)
	a.tells(api.MaxTick, 0)
	b.tells(7, 2)
	b.brings(7, id(1))
	c := opened(t, 3, 2, 0)
	is(t, c.back(0, id(2)), api.ErrNone)
	by := rand.New(rand.NewSource(23))
	plays := []*play{{opened(t, 10, 5, 0), 4, true}, {b, 4, false}, {c, 6, false}, {opened(t, 10, 5, 0), 4, true}}
	for range 1500 {
		plays[by.Intn(4)].calls(by)
		for _, x := range plays {
			x.stands()
		}
	}
}

// TestEndsAtAllArguments: none of the calls panics, and each tells what the plain one does.
func TestEndsAtAllArguments(t *testing.T) {
	t.Parallel()
	by := rand.New(rand.NewSource(99))
	drawn := func() int {
		if by.Intn(2) == 0 {
			return by.Intn(40) - 5
		}
		return (by.Int() - by.Int()) >> by.Intn(64)
	}
	for range 300 {
		x := opened(t, 1+by.Intn(most), 1+by.Intn(most), by.Intn(4097))
		for range 100 {
			s := strings.Repeat(string([]byte{byte(by.Intn(4))}), by.Intn(3)+15)
			switch at := drawn(); by.Intn(4) {
			case 0:
				x.sent(at, s)
			case 1:
				x.back(at, s)
			case 2:
				x.late(at)
			case 3:
				x.alarm(at)
			}
			window, deadline, threshold := drawn(), drawn(), drawn()
			_, e := loops.New(window, deadline, threshold)
			_, we := newPlain(window, deadline, threshold)
			is(t, e, we)
		}
	}
	long := strings.Repeat("l", 1<<20)
	x := opened(t, 1, 1, 0)
	is(t, x.sent(1, long), api.ErrForm)
	is(t, x.back(1, long), api.ErrNone)
}

// TestSameCallsTellTheSame, again and again, and at the same time.
func TestSameCallsTellTheSame(t *testing.T) {
	t.Parallel()
	plays := func() string {
		by := rand.New(rand.NewSource(4))
		var said strings.Builder
		x := &play{opened(t, 10, 5, 1), 12, true}
		for range 800 {
			fmt.Fprintln(&said, x.calls(by), x.l.Now(), x.l.Open())
		}
		return said.String()
	}
	want := plays()
	var everyone sync.WaitGroup
	said := make([]string, 8)
	for k := range said {
		everyone.Go(func() { said[k] = plays() })
	}
	everyone.Wait()
	for _, s := range said {
		if s != want {
			t.Fatal("another answer")
		}
	}
}
