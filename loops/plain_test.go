package loops_test

import (
	"fmt"
	"strings"
	"testing"

	"dovecote/api"
	"dovecote/loops"
)

// Plainly, by the chapter's words.

// plainLoop is one that was ever sent; back is below 0 as long as it did not come back.
type plainLoop struct {
	id         string
	sent, back int
}

// plain is a ledger that has all loops that were ever sent, and asks of each what the chapter says of the loops of a tick.
type plain struct {
	window, deadline, threshold int
	now                         int
	loops                       []plainLoop
}

func newPlain(window, deadline, threshold int) (*plain, api.Errno) {
	for _, n := range []int{window, deadline} {
		if n < 1 || n > 1048576 {
			return nil, api.ErrRange
		}
	}
	if threshold < 0 || threshold > 4096 {
		return nil, api.ErrRange
	}
	return &plain{window: window, deadline: deadline, threshold: threshold}, api.OK
}

// tick is what 23.1 says of all calls that take one.
func (p *plain) tick(at int) api.Errno {
	if at < p.now {
		return api.ErrLate
	}
	if at > 1099511627776 {
		return api.ErrRange
	}
	p.now = at
	return api.OK
}

// known are the places of the loops that were sent behind a tick less window and deadline.
func (p *plain) known(at int) (l []int) {
	for i, o := range p.loops {
		if o.sent > at-p.window-p.deadline {
			l = append(l, i)
		}
	}
	return l
}

// find is the place of the loop of an id that is not forgotten, or -1.
func (p *plain) find(id string) int {
	for _, i := range p.known(p.now) {
		if p.loops[i].id == id {
			return i
		}
	}
	return -1
}

// send is 23.2.
func (p *plain) send(at int, id string) api.Errno {
	if e := p.tick(at); e != api.OK {
		return e
	}
	if len(id) != 16 {
		return api.ErrForm
	}
	if p.find(id) >= 0 {
		return api.ErrThere
	}
	if len(p.known(at)) == 4096 {
		return api.ErrLong
	}
	p.loops = append(p.loops, plainLoop{id, at, -1})
	return api.OK
}

// back is 23.2.
func (p *plain) back(at int, id string) api.Errno {
	if e := p.tick(at); e != api.OK {
		return e
	}
	i := p.find(id)
	if i < 0 {
		return api.ErrNone
	}
	if p.loops[i].back >= 0 {
		return api.ErrThere
	}
	p.loops[i].back = at
	return api.OK
}

// late is 23.3.
func (p *plain) late(at int) (int, api.Errno) {
	if e := p.tick(at); e != api.OK {
		return 0, e
	}
	many := 0
	for _, i := range p.known(at) {
		o := p.loops[i]
		cameBack := o.back >= 0 && o.back <= at
		if o.sent <= at-p.deadline && !cameBack {
			many++
		}
	}
	return many, api.OK
}

// alarm is 23.3.
func (p *plain) alarm(at int) (bool, api.Errno) {
	many, e := p.late(at)
	if e != api.OK {
		return false, e
	}
	return many > p.threshold, api.OK
}

// open is 23.3.
func (p *plain) open() int {
	many := 0
	for _, i := range p.known(p.now) {
		if p.loops[i].back < 0 {
			many++
		}
	}
	return many
}

// Both side by side.

// is fails unless the error is the one that is asked for.
func is(t *testing.T, got, want api.Errno) {
	t.Helper()
	if got != want {
		t.Fatalf("the error is %d; want %d", got, want)
	}
}

// id is one of as many as one likes.
func id(k int) string { return fmt.Sprintf("loop %11d", k) }

// pair is a ledger and a plain one of the same window, deadline and threshold.
type pair struct {
	t *testing.T
	l *loops.Ledger
	p *plain
}

// opened fails unless there are such ledgers.
func opened(t *testing.T, window, deadline, threshold int) *pair {
	t.Helper()
	l, e := loops.New(window, deadline, threshold)
	is(t, e, api.OK)
	p, e := newPlain(window, deadline, threshold)
	is(t, e, api.OK)
	x := &pair{t, l, p}
	x.stands()
	return x
}

// stands holds the ledger's tick, and how many loops are open, against the plain one.
func (x *pair) stands() {
	x.t.Helper()
	if now, open := x.l.Now(), x.l.Open(); now != x.p.now || open != x.p.open() {
		x.t.Fatalf("at %d %d loops are open; want %d at %d", now, open, x.p.open(), x.p.now)
	}
}

func (x *pair) sent(at int, id string) api.Errno {
	x.t.Helper()
	e, want := x.l.Sent(at, id), x.p.send(at, strings.Clone(id)) // as it keeps it
	if e != want {
		x.t.Fatalf("Sent at %d of %q: the error is %d; want %d", at, id, e, want)
	}
	x.stands()
	return e
}

func (x *pair) back(at int, id string) api.Errno {
	x.t.Helper()
	e, want := x.l.Back(at, id), x.p.back(at, id)
	if e != want {
		x.t.Fatalf("Back at %d of %q: the error is %d; want %d", at, id, e, want)
	}
	x.stands()
	return e
}

func (x *pair) late(at int) (int, api.Errno) {
	x.t.Helper()
	many, e := x.l.Late(at)
	want, we := x.p.late(at)
	if many != want || e != we {
		x.t.Fatalf("at %d %d loops are late, error %d; want %d, error %d", at, many, e, want, we)
	}
	x.stands()
	return many, e
}

func (x *pair) alarm(at int) (bool, api.Errno) {
	x.t.Helper()
	up, e := x.l.Alarm(at)
	want, we := x.p.alarm(at)
	if up != want || e != we {
		x.t.Fatalf("at %d the alarm is up: %v, error %d; want %v, error %d", at, up, e, want, we)
	}
	x.stands()
	return up, e
}

// sends fails unless each id is that of a loop that is sent then.
func (x *pair) sends(at int, ids ...string) {
	x.t.Helper()
	for _, s := range ids {
		is(x.t, x.sent(at, s), api.OK)
	}
}

// brings fails unless each id is that of a loop that comes back then.
func (x *pair) brings(at int, ids ...string) {
	x.t.Helper()
	for _, s := range ids {
		is(x.t, x.back(at, s), api.OK)
	}
}

// tells fails unless so many loops are late then, and the alarm is up just if those are more than the threshold.
func (x *pair) tells(at, want int) {
	x.t.Helper()
	if many, e := x.late(at); many != want || e != api.OK {
		x.t.Fatalf("at %d %d loops are late, error %d; want %d", at, many, e, want)
	}
	if up, e := x.alarm(at); up != (want > x.p.threshold) || e != api.OK {
		x.t.Fatalf("at %d, with %d late loops, the alarm is up: %v, error %d", at, want, up, e)
	}
}

// opens fails unless so many loops did not come back.
func (x *pair) opens(want int) {
	x.t.Helper()
	if got := x.l.Open(); got != want {
		x.t.Fatalf("%d loops are open; want %d", got, want)
	}
}

// refuses fails unless each call that takes a tick is refused for this one, whatever the id, and the ledger's tick stays.
func (x *pair) refuses(at int, want api.Errno) {
	x.t.Helper()
	now, open := x.l.Now(), x.l.Open()
	for _, s := range append(wrongIds(), id(0), id(1), id(1<<20)) {
		is(x.t, x.sent(at, s), want)
		is(x.t, x.back(at, s), want)
	}
	if many, e := x.late(at); many != 0 || e != want {
		x.t.Fatalf("at %d %d loops are late, error %d; want the error %d alone", at, many, e, want)
	}
	if up, e := x.alarm(at); up || e != want {
		x.t.Fatalf("at %d the alarm is up: %v, error %d; want the error %d alone", at, up, e, want)
	}
	if x.l.Now() != now || x.l.Open() != open {
		x.t.Fatalf("at %d %d loops are open; want %d at %d", x.l.Now(), x.l.Open(), open, now)
	}
}

// wrongIds have not 16 bytes.
func wrongIds() (l []string) {
	for _, long := range []int{0, 1, 8, 14, 15, 17, 18, 31, 32, 33, 256 + 16, 1 << 16, 1<<16 + 16} {
		l = append(l, strings.Repeat("i", long))
	}
	// Those of a loop with a byte less, a byte more, or as many characters.
	return append(l, id(0)[:15], id(0)[1:], id(0)+"\x00", id(0)+"0", id(0)+id(0), strings.Repeat("é", 16))
}
