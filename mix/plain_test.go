package mix_test

import (
	"cmp"
	"fmt"
	"slices"
	"sync"
	"testing"

	"dovecote/api"
	"dovecote/curve"
	"dovecote/disk"
	"dovecote/mix"
	"dovecote/pack"
	"dovecote/seen"
)

// Packets.

// kept keeps what a function answers, as packets take long to make and to peel.
func kept[K comparable, V any](of func(K) V) func(K) V {
	var all sync.Map
	return func(k K) V {
		if v, ok := all.Load(k); ok {
			return v.(V)
		}
		v := of(k)
		all.Store(k, v)
		return v
	}
}

// private is the key of the node of that number.
func private(i int) string { return fmt.Sprintf("private key %20d", i) }

var point = kept(func(i int) string {
	p, e := curve.Public(private(i))
	if e != api.OK {
		panic(e)
	}
	return p
})

// on, home, loop and drop are commands of each kind.
func on(node, delay int) api.Hop { return api.Hop{Kind: api.HOn, Node: node, Delay: delay} }

func home(user, delay int, id string) api.Hop {
	return api.Hop{Kind: api.HHome, User: user, Delay: delay, Id: id}
}

func loop(id string) api.Hop { return api.Hop{Kind: api.HLoop, Id: id} }

func drop() api.Hop { return api.Hop{Kind: api.HDrop} }

// id is one of as many as one likes.
func id(k int) string { return fmt.Sprintf("id %13d", k) }

// made fails if there is no such packet.
func made(seed int, points []string, text string, path ...api.Hop) string {
	p, e := pack.Make(fmt.Sprintf("seed %27d", seed), points, text, path...)
	if e != api.OK {
		panic(e)
	}
	return p
}

// making is what a packet is made of: whose it is, one of many, what it tells there.
type making struct {
	node, seed int
	tells      api.Hop
}

var packets = kept(func(x making) string {
	points, path := []string{point(x.node)}, []api.Hop{x.tells}
	if x.tells.Kind == api.HOn {
		points, path = append(points, point(99)), append(path, drop())
	}
	return made(x.seed, points, "the text", path...)
})

// packet is for the node 0. One that goes on is dropped by the next one.
func packet(seed int, tells api.Hop) string { return packets(making{0, seed, tells}) }

// inHand is what chapter 9's Peel answers.
type inHand struct {
	api.Peeled
	e api.Errno
}

var peels = kept(func(k [2]string) inHand {
	p, e := pack.Peel(k[0], k[1])
	return inHand{p, e}
})

// peeled is what the node 0 has of a packet.
func peeled(packet string) inHand { return peels([2]string{private(0), packet}) }

// goes is what the node 0 sends on of a packet.
func goes(packet string) api.Out {
	x := peeled(packet)
	return api.Out{Node: x.Hop.Node, Packet: x.Next}
}

// all is what a function answers, of one after the other.
func all[K, V any](of func(K) V, l ...K) (answers []V) {
	for _, k := range l {
		answers = append(answers, of(k))
	}
	return answers
}

// A plain node.

// waiting is a packet that goes on, and when.
type waiting struct {
	at  int
	out api.Out
}

// plainNode is a node by the chapter's words, with a set of tags (chapter 17) on a disk of its own.
type plainNode struct {
	private   string
	tags      *seen.Set
	pool, now int
	waits     []waiting // of the same time: as they were taken
	loops     []string
	counts    api.Counts
}

// openPlain is 19.1.
func openPlain(private string, d *disk.Disk, pool int) (*plainNode, api.Errno) {
	if len(private) != 32 {
		return nil, api.ErrForm
	}
	if pool < 1 || pool > 4096 {
		return nil, api.ErrRange
	}
	tags, e := seen.Open(d, 4096)
	if e != api.OK {
		return nil, e
	}
	return &plainNode{private: private, tags: tags, pool: pool}, api.OK
}

// take is 19.2.
func (p *plainNode) take(packet string) api.Errno {
	x := peels([2]string{p.private, packet})
	e := x.e
	if e == api.OK {
		e = p.refuses(x.Hop)
	}
	if e == api.OK {
		e = p.tags.Add(x.Tag)
	}
	switch {
	case e == api.ErrSeen:
		p.counts.Twice++
	case e != api.OK:
		p.counts.Bad++
	case x.Hop.Kind == api.HOn:
		p.counts.On++
		p.waits = append(p.waits, waiting{p.now + 1 + x.Hop.Delay, api.Out{Node: x.Hop.Node, Packet: x.Next}})
	case x.Hop.Kind == api.HLoop:
		p.counts.Loop++
		p.loops = append(p.loops, x.Hop.Id)
	case x.Hop.Kind == api.HDrop:
		p.counts.Drop++
	}
	return e
}

func (p *plainNode) refuses(h api.Hop) api.Errno {
	switch {
	case h.Kind == api.HHome:
		return api.ErrRoute
	case h.Kind == api.HOn && len(p.waits) >= p.pool:
		return api.ErrPool
	case h.Kind == api.HOn && p.now+1+h.Delay > 1<<40:
		return api.ErrRange
	}
	return api.OK
}

// tick is 19.3.
func (p *plainNode) tick(to int) (l []api.Out, e api.Errno) {
	if to < p.now {
		return nil, api.ErrLate
	}
	if to > 1<<40 {
		return nil, api.ErrRange
	}
	p.now = to
	slices.SortStableFunc(p.waits, func(a, b waiting) int { return cmp.Compare(a.at, b.at) })
	for len(p.waits) > 0 && p.waits[0].at <= to {
		l = append(l, p.waits[0].out)
		p.waits = p.waits[1:]
	}
	return l, api.OK
}

// back is 19.3.
func (p *plainNode) back() []string {
	l := p.loops
	p.loops = nil
	return l
}

// Both.

// pair is a disk and a node on it, and a disk with a plain node that each call is held against.
type pair struct {
	t     *testing.T
	d, pd *disk.Disk
	down  bool
	backs bool       // whether Back is asked behind each call
	m     *mix.Mix   // nil: there is none that may be asked
	p     *plainNode // as m
}

// newPair is a disk without a node.
func newPair(t *testing.T, sectors int) *pair {
	t.Helper()
	return &pair{t: t, d: newDisk(t, sectors), pd: newDisk(t, sectors)}
}

// opened is a pair with the node 0.
func opened(t *testing.T, sectors, pool int) *pair {
	t.Helper()
	x := newPair(t, sectors)
	is(t, x.open(pool), api.OK)
	return x
}

func newDisk(t *testing.T, sectors int) *disk.Disk {
	t.Helper()
	d, e := disk.New(sectors)
	is(t, e, api.OK)
	return d
}

// looks fails unless each sector, how many writes wait, and what the node tells are as those of the plain ones.
func (x *pair) looks() {
	x.t.Helper()
	if n, want := x.d.Waits(), x.pd.Waits(); n != want {
		x.t.Fatalf("%d writes wait; want %d", n, want)
	}
	for i := range x.d.Size() {
		s, e := x.d.Read(i)
		if want, wantE := x.pd.Read(i); s != want || e != wantE {
			x.t.Fatalf("the sector %d is %q, error %d; want %q, %d", i, s, e, want, wantE)
		}
	}
	if x.m == nil {
		return
	}
	tells(x.t, x.m, x.p.counts, len(x.p.waits))
	if x.backs {
		told(x.t, x.m.Back(), x.p.back())
	}
}

// tells fails unless a node has these counts, and as many packets wait.
func tells(t *testing.T, m *mix.Mix, counts api.Counts, waits int) {
	t.Helper()
	if got := m.Counts(); got != counts {
		t.Fatalf("Counts: %+v; want %+v", got, counts)
	}
	if got := m.Waits(); got != waits {
		t.Fatalf("Waits: %d; want %d", got, waits)
	}
}

// told fails unless an answer is this.
func told[V comparable](t *testing.T, got, want []V) {
	t.Helper()
	if !slices.Equal(got, want) {
		t.Fatalf("told %d: %.120q; want %d: %.120q", len(got), fmt.Sprint(got), len(want), fmt.Sprint(want))
	}
}

// said fails unless both answered the same, and are the same now. A node whose disk is down is not asked any more.
func (x *pair) said(call string, e, want api.Errno) api.Errno {
	x.t.Helper()
	if e != want {
		x.t.Fatalf("%s: error %d; want %d", call, e, want)
	}
	if e == api.ErrDown {
		x.down, x.m, x.p = true, nil, nil
	}
	x.looks()
	return e
}

func (x *pair) open(pool int) api.Errno {
	x.t.Helper()
	return x.openBy(private(0), pool)
}

func (x *pair) openBy(private string, pool int) api.Errno {
	x.t.Helper()
	m, e := mix.New(private, x.d, pool)
	p, want := openPlain(private, x.pd, pool)
	if (m == nil) != (p == nil) {
		x.t.Fatalf("New: a node %t, error %d; want error %d", m != nil, e, want)
	}
	x.m, x.p = m, p
	return x.said("New", e, want)
}

func (x *pair) take(packet string) api.Errno {
	x.t.Helper()
	return x.said(fmt.Sprintf("Take of %d bytes", len(packet)), x.m.Take(packet), x.p.take(packet))
}

// takes fails unless all these packets are taken.
func (x *pair) takes(packets ...string) {
	x.t.Helper()
	for _, p := range packets {
		is(x.t, x.take(p), api.OK)
	}
}

func (x *pair) tick(to int) ([]api.Out, api.Errno) {
	x.t.Helper()
	l, e := x.m.Tick(to)
	want, wantE := x.p.tick(to)
	told(x.t, l, want)
	return l, x.said(fmt.Sprintf("Tick(%d)", to), e, wantE)
}

// ticks fails unless these packets go on, as the node 0 peels them, in this order.
func (x *pair) ticks(to int, packets ...string) {
	x.t.Helper()
	l, e := x.tick(to)
	is(x.t, e, api.OK)
	told(x.t, l, all(goes, packets...))
}

func (x *pair) back() []string {
	x.t.Helper()
	l, want := x.m.Back(), x.p.back()
	told(x.t, l, want)
	x.looks()
	return l
}

func (x *pair) rotate() api.Errno {
	x.t.Helper()
	return x.said("Rotate", x.m.Rotate(), x.p.tags.Rotate())
}

func (x *pair) fuse(n int) {
	x.t.Helper()
	x.said("Fuse", x.d.Fuse(n), x.pd.Fuse(n))
}

// crash leaves no node that may be asked.
func (x *pair) crash(picks ...int) {
	x.t.Helper()
	x.m, x.p, x.down = nil, nil, false
	x.said("Crash", x.d.Crash(picks...), x.pd.Crash(picks...))
}

// is fails unless an answer is this.
func is(t *testing.T, got, want api.Errno) {
	t.Helper()
	if got != want {
		t.Fatalf("error %d; want %d", got, want)
	}
}

// several does as many things, some of them at the same time.
func several(t *testing.T, many int, one func(t *testing.T, k int)) {
	t.Helper()
	const parts = 8
	t.Run("all", func(t *testing.T) { // ends when all parts have
		for part := range parts {
			t.Run(fmt.Sprint("part ", part), func(t *testing.T) {
				t.Parallel()
				for k := part; k < many; k += parts {
					one(t, k)
				}
			})
		}
	})
}
