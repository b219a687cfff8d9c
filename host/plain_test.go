package host_test

import (
	"cmp"
	"crypto/hmac"
	"crypto/sha256"
	"encoding/binary"
	"fmt"
	"slices"
	"strings"
	"sync"
	"testing"

	"dovecote/api"
	"dovecote/curve"
	"dovecote/disk"
	"dovecote/host"
	"dovecote/log"
	"dovecote/pack"
	"dovecote/seen"
)

const (
	maxTick  = 1 << 40
	greatest = 1<<31 - 1 // the greatest Seq
)

func zeros(many int) string { return strings.Repeat("\x00", many) }

// Packets.

// kept keeps what a function answers, as packets take long to make and to peel.
func kept[K comparable, V any](of func(K) V) func(K) V {
	var all sync.Map
	return func(k K) V {
		if v, ok := all.Load(k); ok {
			return v.(V)
		}
		v := of(k)
		all.Store(k, v)
		return v
	}
}

// private is the key of the host or the mix of that number.
func private(i int) string { return fmt.Sprintf("private key %20d", i) }

var point = kept(func(i int) string {
	p, e := curve.Public(private(i))
	if e != api.OK {
		panic(e)
	}
	return p
})

// on, home, loop and drop are commands of each kind.
func on(node, delay int) api.Hop { return api.Hop{Kind: api.HOn, Node: node, Delay: delay} }

func home(user, delay int, id string) api.Hop {
	return api.Hop{Kind: api.HHome, User: user, Delay: delay, Id: id}
}

func loop(id string) api.Hop { return api.Hop{Kind: api.HLoop, Id: id} }

func drop() api.Hop { return api.Hop{Kind: api.HDrop} }

// id is one of as many as one likes.
func id(k int) string { return fmt.Sprintf("id %13d", k) }

// ids is those from one number to below another.
func ids(from, to int) (l []string) {
	for k := from; k < to; k++ {
		l = append(l, id(k))
	}
	return l
}

// made fails if there is no such packet.
func made(seed int, points []string, text string, path ...api.Hop) string {
	p, e := pack.Make(fmt.Sprintf("seed %27d", seed), points, text, path...)
	if e != api.OK {
		panic(e)
	}
	return p
}

// making is what a packet is made of: whose it is, one of many, what it tells there. Those of one seed have one tag, whatever they tell.
type making struct {
	node, seed int
	tells      api.Hop
	text       string
}

var packets = kept(func(x making) string {
	points, path := []string{point(x.node)}, []api.Hop{x.tells}
	if x.tells.Kind == api.HOn {
		points, path = append(points, point(99)), append(path, drop())
	}
	return made(x.seed, points, x.text, path...)
})

// packet is for the host 0. One that goes on is dropped by the next one.
func packet(seed int, tells api.Hop) string { return packets(making{0, seed, tells, "the text"}) }

// letter is a packet that is home at the host 0.
func letter(seed, user int, id, text string) string {
	return packets(making{0, seed, home(user, 0, id), text})
}

// inHand is what chapter 9's Peel answers.
type inHand struct {
	api.Peeled
	e api.Errno
}

var peels = kept(func(k [2]string) inHand {
	p, e := pack.Peel(k[0], k[1])
	return inHand{p, e}
})

// peeled is what the host 0 has of a packet.
func peeled(packet string) inHand { return peels([2]string{private(0), packet}) }

// goes is what the host 0 sends on of a packet.
func goes(packet string) api.Out {
	x := peeled(packet)
	return api.Out{Node: x.Hop.Node, Packet: x.Next}
}

// Messages, by chapters 11 and 20.

// key is that of a user's account.
func key(user int) string { return fmt.Sprintf("the key of an account %10d", user) }

// accounts are those of these users.
func accounts(users ...int) (l []api.Account) {
	for _, u := range users {
		l = append(l, api.Account{User: u, Key: key(u)})
	}
	return l
}

// carries is the message of a packet.
func carries(packet string) string { return "\x01" + packet }

// lead is what stands ahead of all else in a message that is no packet's.
func lead(kind, user, seq int) string {
	return string(binary.BigEndian.AppendUint32([]byte{byte(kind), byte(user)}, uint32(seq)))
}

// tag is that of a message under a key.
func tag(key, lead, behind string) string {
	mac := hmac.New(sha256.New, []byte(key))
	mac.Write([]byte("gate" + lead + zeros(32) + behind))
	return string(mac.Sum(nil))
}

// signed is a message, with its tag under a key.
func signed(key, lead, behind string) string { return lead + tag(key, lead, behind) + behind }

// pull and ack are signed by the user's key.
func pull(user, seq int) string { return pullBy(key(user), user, seq) }

func pullBy(key string, user, seq int) string { return signed(key, lead(2, user, seq), "") }

func ack(user, seq int, l ...string) string { return ackBy(key(user), user, seq, l...) }

func ackBy(key string, user, seq int, l ...string) string {
	return signed(key, lead(4, user, seq), strings.Join(l, "")+zeros(64-16*len(l)))
}

// reply is one of these slots, and empty ones behind them.
func reply(user, seq int, l ...api.Slot) string {
	s := lead(3, user, seq)
	for _, x := range l {
		s += x.Id + string([]byte{byte(len(x.Text))}) + x.Text + zeros(222-len(x.Text))
	}
	return s + zeros(962-len(s))
}

// Entries, by chapter 18.

// entry is one, and whose it is.
type entry struct {
	user     int
	id, text string
}

// plainEntries is all entries, the oldest first. It is not changed: what befalls it makes another one.
type plainEntries []entry

// of is the entries of a user's box.
func (p plainEntries) of(user int) (l []api.Slot) {
	for _, x := range p {
		if x.user == user {
			l = append(l, api.Slot{Id: x.id, Text: x.text})
		}
	}
	return l
}

func (p plainEntries) has(user int, id string) bool {
	return slices.ContainsFunc(p, func(x entry) bool { return x.user == user && x.id == id })
}

func (p plainEntries) with(user int, id, text string) plainEntries {
	return append(slices.Clone(p), entry{user, id, text})
}

func (p plainEntries) without(user int, id string) plainEntries {
	return slices.DeleteFunc(slices.Clone(p), func(x entry) bool { return x.user == user && x.id == id })
}

// short is the records of the short log.
func (p plainEntries) short() (l []string) {
	for user := range 64 {
		for _, x := range p.of(user) {
			l = append(l, recordP(user, x.Id, x.Text))
		}
	}
	return l
}

// behind is what records make, and whether all may be.
func (p plainEntries) behind(records ...string) (plainEntries, bool) {
	for _, r := range records {
		if len(r) < 18 || r[1] > 63 || r[2:18] == zeros(16) {
			return nil, false
		}
		user, id, text, there := int(r[1]), r[2:18], r[18:], p.has(int(r[1]), r[2:18])
		switch {
		case r[0] == 'P' && len(text) <= 222 && !there:
			p = p.with(user, id, text)
		case r[0] == 'A' && text == "" && there:
			p = p.without(user, id)
		default:
			return nil, false
		}
	}
	return p, true
}

func recordP(user int, id, text string) string {
	return "P" + string([]byte{byte(user)}) + id + text
}

func recordA(user int, id string) string { return "A" + string([]byte{byte(user)}) + id }

// recordT and recordE are chapter 17's.
func recordT(tag string) string { return "T" + tag }

func recordE(epoch int) string {
	return "E" + string(binary.BigEndian.AppendUint32(nil, uint32(epoch)))
}

// tagOf is the record of a packet of the host 0.
func tagOf(packet string) string { return recordT(peeled(packet).Tag) }

// plainBoxes is boxes on a log (chapter 16).
type plainBoxes struct {
	plainEntries
	l     *log.Log
	quota int
}

// openBoxes is 18.1.
func openBoxes(d *disk.Disk, quota int) (*plainBoxes, api.Errno) {
	if quota < 1 || quota > 256 {
		return nil, api.ErrRange
	}
	l, e := log.Open(d)
	if e != api.OK {
		return nil, e
	}
	all, ok := plainEntries{}.behind(l.Records()...)
	if !ok {
		return nil, api.ErrRot
	}
	return &plainBoxes{all, l, quota}, api.OK
}

// write is chapter 18's word: what is asked of the log, in order.
func (p *plainBoxes) write(records ...string) api.Errno {
	will, _ := p.behind(records...)
	e := api.OK
	for _, r := range records {
		if e = p.l.Append(r); e != api.OK {
			break
		}
	}
	switch e {
	case api.OK:
		e = p.l.Sync()
	case api.ErrSpace:
		e = p.l.Compact(will.short()...)
	}
	if e == api.OK {
		p.plainEntries = will
	}
	return e
}

// put is 18.2, of what a packet can have.
func (p *plainBoxes) put(user int, id, text string) api.Errno {
	switch {
	case id == zeros(16):
		return api.ErrForm
	case p.has(user, id):
		return api.ErrThere
	case len(p.of(user)) >= p.quota:
		return api.ErrFull
	}
	return p.write(recordP(user, id, text))
}

// ack is 18.3, of what a message can have. Where the log is at its last generation, and one of several As would find no room, nothing is written (R5).
func (p *plainBoxes) ack(user int, ids ...string) api.Errno {
	var records []string
	for _, id := range ids {
		if r := recordA(user, id); p.has(user, id) && !slices.Contains(records, r) {
			records = append(records, r)
		}
	}
	switch {
	case len(records) == 0:
		return api.OK
	case p.l.Generation() == 1<<31-1 && len(records) > p.l.Room():
		return api.ErrLong
	}
	return p.write(records...)
}

// A plain host.

// waiting is a packet that goes on, and when.
type waiting struct {
	at  int
	out api.Out
}

// plainHost is a host by the chapter's words, with a set of tags (chapter 17) and a log of entries on disks of its own.
type plainHost struct {
	*plainBoxes
	private   string
	tags      *seen.Set
	pool, now int
	waits     []waiting // of the same time: as they were taken
	loops     []string
	counts    api.Counts
	keys      map[int]string
	last      map[int]int // Seqs
}

// openPlain is 21.1.
func openPlain(private string, tags, boxes *disk.Disk, l []api.Account, pool, quota int) (*plainHost, api.Errno) {
	if len(private) != 32 {
		return nil, api.ErrForm
	}
	if pool < 1 || pool > 4096 {
		return nil, api.ErrRange
	}
	set, e := seen.Open(tags, 4096)
	if e != api.OK {
		return nil, e
	}
	b, e := openBoxes(boxes, quota)
	if e != api.OK {
		return nil, e
	}
	p := &plainHost{plainBoxes: b, private: private, tags: set, pool: pool, keys: map[int]string{}, last: map[int]int{}}
	if len(l) > 64 {
		return nil, api.ErrLong
	}
	for _, a := range l {
		_, there := p.keys[a.User]
		switch {
		case a.User < 0 || a.User > 63:
			return nil, api.ErrRange
		case there:
			return nil, api.ErrThere
		case len(a.Key) != 32:
			return nil, api.ErrForm
		}
		p.keys[a.User] = a.Key
	}
	return p, api.OK
}

// take is 21.2.
func (p *plainHost) take(text string) (string, api.Errno) {
	switch {
	case len(text) == 505 && text[0] == 1:
		return "", p.counted(p.packet(text[1:]))
	case len(text) == 38 && text[0] == 2:
		return p.pulls(text)
	case len(text) == 102 && text[0] == 4:
		return "", p.acks(text)
	}
	return "", api.ErrMail
}

func (p *plainHost) counted(e api.Errno) api.Errno {
	switch e {
	case api.OK:
	case api.ErrSeen:
		p.counts.Twice++
	default:
		p.counts.Bad++
	}
	return e
}

func (p *plainHost) packet(packet string) api.Errno {
	x := peels([2]string{p.private, packet})
	e := x.e
	if e == api.OK {
		e = p.refuses(x.Hop)
	}
	if e == api.OK {
		e = p.tags.Add(x.Tag)
	}
	if e == api.OK && x.Hop.Kind == api.HHome {
		e = p.put(x.Hop.User, x.Hop.Id, x.Text)
	}
	if e != api.OK {
		return e
	}
	switch x.Hop.Kind {
	case api.HOn:
		p.counts.On++
		p.waits = append(p.waits, waiting{p.now + 1 + x.Hop.Delay, api.Out{Node: x.Hop.Node, Packet: x.Next}})
	case api.HHome:
		p.counts.Home++
	case api.HLoop:
		p.counts.Loop++
		p.loops = append(p.loops, x.Hop.Id)
	case api.HDrop:
		p.counts.Drop++
	}
	return api.OK
}

func (p *plainHost) refuses(h api.Hop) api.Errno {
	_, there := p.keys[h.User]
	switch {
	case h.Kind == api.HHome && !there:
		return api.ErrAuth
	case h.Kind == api.HOn && len(p.waits) >= p.pool:
		return api.ErrPool
	case h.Kind == api.HOn && p.now+1+h.Delay > maxTick:
		return api.ErrRange
	}
	return api.OK
}

func (p *plainHost) pulls(text string) (string, api.Errno) {
	user, seq, e := p.admit(text)
	if e != api.OK {
		return "", e
	}
	l := p.of(user)
	return reply(user, seq, l[:min(len(l), 4)]...), api.OK
}

func (p *plainHost) acks(text string) api.Errno {
	var l []string
	for at := 38; at < 102 && text[at:at+16] != zeros(16); at += 16 {
		l = append(l, text[at:at+16])
	}
	if text[38+16*len(l):] != zeros(64-16*len(l)) {
		return api.ErrMail
	}
	user, _, e := p.admit(text)
	if e != api.OK {
		return e
	}
	return p.ack(user, l...)
}

// admit is 20.3, of the text of a pull or an ack.
func (p *plainHost) admit(text string) (user, seq int, e api.Errno) {
	user, seq = int(text[1]), int(binary.BigEndian.Uint32([]byte(text[2:6])))
	if user > 63 || seq < 1 || seq > greatest {
		return 0, 0, api.ErrMail
	}
	key, there := p.keys[user]
	if !there || text[6:38] != tag(key, text[:6], text[38:]) {
		return 0, 0, api.ErrAuth
	}
	if seq <= p.last[user] {
		return 0, 0, api.ErrSeen
	}
	p.last[user] = seq
	return user, seq, api.OK
}

// tick, and back, are 21.3.
func (p *plainHost) tick(to int) (l []api.Out, e api.Errno) {
	if to < p.now {
		return nil, api.ErrLate
	}
	if to > maxTick {
		return nil, api.ErrRange
	}
	p.now = to
	slices.SortStableFunc(p.waits, func(a, b waiting) int { return cmp.Compare(a.at, b.at) })
	for len(p.waits) > 0 && p.waits[0].at <= to {
		l = append(l, p.waits[0].out)
		p.waits = p.waits[1:]
	}
	return l, api.OK
}

func (p *plainHost) back() []string {
	l := p.loops
	p.loops = nil
	return l
}

// Both.

// disks are those of a host.
type disks struct{ tags, boxes *disk.Disk }

func newDisk(t *testing.T, sectors int) *disk.Disk {
	t.Helper()
	d, e := disk.New(sectors)
	is(t, e, api.OK)
	return d
}

func newDisks(t *testing.T, tags, boxes int) disks {
	t.Helper()
	return disks{newDisk(t, tags), newDisk(t, boxes)}
}

// pair is disks and a host on them, and disks with a plain host that each call is held against.
type pair struct {
	t     *testing.T
	d, pd disks
	down  bool
	backs bool       // whether Back is asked behind each call
	h     *host.Host // nil: there is none that may be asked
	p     *plainHost // as h
}

// newPair is disks without a host.
func newPair(t *testing.T, tags, boxes int) *pair {
	t.Helper()
	return &pair{t: t, d: newDisks(t, tags, boxes), pd: newDisks(t, tags, boxes)}
}

// opened is a pair of the host 0, with accounts of these users.
func opened(t *testing.T, tags, boxes, pool, quota int, users ...int) *pair {
	t.Helper()
	x := newPair(t, tags, boxes)
	is(t, x.open(pool, quota, users...), api.OK)
	return x
}

// looks fails unless each sector, how many writes wait, and what the host tells are as those of the plain ones.
func (x *pair) looks() {
	x.t.Helper()
	sameDisk(x.t, "tags", x.d.tags, x.pd.tags)
	sameDisk(x.t, "boxes", x.d.boxes, x.pd.boxes)
	if x.h == nil {
		return
	}
	tells(x.t, x.h, x.p.counts, len(x.p.waits))
	for user := -1; user < 65; user++ {
		if n, want := x.h.Len(user), len(x.p.of(user)); n != want {
			x.t.Fatalf("Len(%d): %d; want %d", user, n, want)
		}
	}
	if x.backs {
		told(x.t, x.h.Back(), x.p.back())
	}
}

func sameDisk(t *testing.T, name string, d, pd *disk.Disk) {
	t.Helper()
	if n, want := d.Waits(), pd.Waits(); n != want {
		t.Fatalf("%s: %d writes wait; want %d", name, n, want)
	}
	for i := range d.Size() {
		s, e := d.Read(i)
		if want, wantE := pd.Read(i); s != want || e != wantE {
			t.Fatalf("%s: the sector %d is %q, error %d; want %q, %d", name, i, s, e, want, wantE)
		}
	}
}

// tells fails unless a host has these counts, and as many packets wait.
func tells(t *testing.T, h *host.Host, counts api.Counts, waits int) {
	t.Helper()
	if got := h.Counts(); got != counts {
		t.Fatalf("Counts: %+v; want %+v", got, counts)
	}
	if got := h.Waits(); got != waits {
		t.Fatalf("Waits: %d; want %d", got, waits)
	}
}

// told fails unless an answer is this.
func told[V comparable](t *testing.T, got, want []V) {
	t.Helper()
	if !slices.Equal(got, want) {
		t.Fatalf("told %d: %.120q; want %d: %.120q", len(got), fmt.Sprint(got), len(want), fmt.Sprint(want))
	}
}

// is fails unless an answer is this.
func is(t *testing.T, got, want api.Errno) {
	t.Helper()
	if got != want {
		t.Fatalf("error %d; want %d", got, want)
	}
}

// said fails unless both answered the same, and are the same now. A host whose disk is down is not asked any more.
func (x *pair) said(call string, e, want api.Errno) api.Errno {
	x.t.Helper()
	if e != want {
		x.t.Fatalf("%s: error %d; want %d", call, e, want)
	}
	if e == api.ErrDown {
		x.down, x.h, x.p = true, nil, nil
	}
	x.looks()
	return e
}

func (x *pair) open(pool, quota int, users ...int) api.Errno {
	x.t.Helper()
	return x.openBy(private(0), accounts(users...), pool, quota)
}

func (x *pair) openBy(private string, l []api.Account, pool, quota int) api.Errno {
	x.t.Helper()
	h, e := host.New(private, x.d.tags, x.d.boxes, l, pool, quota)
	p, want := openPlain(private, x.pd.tags, x.pd.boxes, l, pool, quota)
	if (h == nil) != (p == nil) {
		x.t.Fatalf("New: a host %t, error %d; want error %d", h != nil, e, want)
	}
	x.h, x.p = h, p
	return x.said("New", e, want)
}

// take takes any text.
func (x *pair) take(text string) (string, api.Errno) {
	x.t.Helper()
	got, e := x.h.Take(text)
	want, wantE := x.p.take(text)
	if got != want {
		x.t.Fatalf("Take of %.60q: the reply %q, error %d; want %q, error %d", text, got, e, want, wantE)
	}
	return got, x.said(fmt.Sprintf("Take of %.60q", text), e, wantE)
}

// takes fails unless all these texts are taken, none with a reply.
func (x *pair) takes(texts ...string) {
	x.t.Helper()
	for _, s := range texts {
		r, e := x.take(s)
		is(x.t, e, api.OK)
		if r != "" {
			x.t.Fatalf("there is a reply: %q", r)
		}
	}
}

// comes fails unless all these packets are taken.
func (x *pair) comes(packets ...string) {
	x.t.Helper()
	for _, p := range packets {
		x.takes(carries(p))
	}
}

// refuses fails unless each of the texts is refused for this.
func (x *pair) refuses(want api.Errno, texts ...string) {
	x.t.Helper()
	for _, s := range texts {
		r, e := x.take(s)
		is(x.t, e, want)
		if r != "" {
			x.t.Fatalf("beside an error there is a reply: %q", r)
		}
	}
}

// bad fails unless each of the packets is refused for this.
func (x *pair) bad(want api.Errno, packets ...string) {
	x.t.Helper()
	for _, p := range packets {
		x.refuses(want, carries(p))
	}
}

// shows fails unless a pull of a user tells just these entries.
func (x *pair) shows(user int, want ...api.Slot) {
	x.t.Helper()
	seq := x.p.last[user] + 1
	got, e := x.take(pull(user, seq))
	is(x.t, e, api.OK)
	if got != reply(user, seq, want...) {
		x.t.Fatalf("the reply is %q; want %q", got, want)
	}
}

// acked fails unless an ack of a user is taken.
func (x *pair) acked(user int, l ...string) {
	x.t.Helper()
	x.takes(ack(user, x.p.last[user]+1, l...))
}

func (x *pair) tick(to int) ([]api.Out, api.Errno) {
	x.t.Helper()
	l, e := x.h.Tick(to)
	want, wantE := x.p.tick(to)
	told(x.t, l, want)
	return l, x.said(fmt.Sprintf("Tick(%d)", to), e, wantE)
}

// ticks fails unless these packets go on, as the host 0 peels them, in this order.
func (x *pair) ticks(to int, packets ...string) {
	x.t.Helper()
	l, e := x.tick(to)
	is(x.t, e, api.OK)
	var want []api.Out
	for _, p := range packets {
		want = append(want, goes(p))
	}
	told(x.t, l, want)
}

func (x *pair) back() []string {
	x.t.Helper()
	l, want := x.h.Back(), x.p.back()
	told(x.t, l, want)
	x.looks()
	return l
}

func (x *pair) rotate() api.Errno {
	x.t.Helper()
	return x.said("Rotate", x.h.Rotate(), x.p.tags.Rotate())
}

// fuse sets fuses of both disks; 0 is none.
func (x *pair) fuse(tags, boxes int) {
	x.t.Helper()
	x.said("Fuse", x.d.tags.Fuse(tags), x.pd.tags.Fuse(tags))
	x.said("Fuse", x.d.boxes.Fuse(boxes), x.pd.boxes.Fuse(boxes))
}

// crash leaves no host that may be asked.
func (x *pair) crash(tags, boxes []int) {
	x.t.Helper()
	x.h, x.p, x.down = nil, nil, false
	is(x.t, x.d.tags.Crash(tags...), x.pd.tags.Crash(tags...))
	is(x.t, x.d.boxes.Crash(boxes...), x.pd.boxes.Crash(boxes...))
	x.looks()
}

// lay appends records by a log alone.
func lay(t *testing.T, d *disk.Disk, records ...string) {
	t.Helper()
	l, e := log.Open(d)
	is(t, e, api.OK)
	for _, r := range records {
		is(t, l.Append(r), api.OK)
	}
	is(t, l.Sync(), api.OK)
}

// lays brings records onto the disks of both, and leaves no host that may be asked.
func (x *pair) lays(tags, boxes []string) {
	x.t.Helper()
	x.h, x.p = nil, nil
	for _, d := range []disks{x.d, x.pd} {
		lay(x.t, d.tags, tags...)
		lay(x.t, d.boxes, boxes...)
	}
	x.looks()
}

// holds fails unless these records lie on a disk.
func holds(t *testing.T, d *disk.Disk, records ...string) {
	t.Helper()
	l, e := log.Open(d)
	is(t, e, api.OK)
	if got := l.Records(); !slices.Equal(got, records) {
		t.Fatalf("the records are %q; want %q", got, records)
	}
}

// several does as many things, some of them at the same time.
func several(t *testing.T, many int, one func(t *testing.T, k int)) {
	t.Helper()
	const parts = 8
	t.Run("all", func(t *testing.T) { // ends when all parts have
		for part := range parts {
			t.Run(fmt.Sprint("part ", part), func(t *testing.T) {
				t.Parallel()
				for k := part; k < many; k += parts {
					one(t, k)
				}
			})
		}
	})
}
