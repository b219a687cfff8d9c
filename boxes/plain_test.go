package boxes_test

import (
	"crypto/sha256"
	"encoding/binary"
	"fmt"
	"slices"
	"strings"
	"testing"

	"dovecote/api"
	"dovecote/boxes"
	"dovecote/disk"
	"dovecote/log"
)

// waiting is an entry, and whose it is.
type waiting struct {
	user     int
	id, text string
}

// plainEntries is what the chapter's words tell of boxes: all entries, the oldest first. It is not changed: what befalls it makes another one.
type plainEntries []waiting

// of is the entries of a user's box.
func (p plainEntries) of(user int) (l []api.Slot) {
	for _, x := range p {
		if x.user == user {
			l = append(l, api.Slot{Id: x.id, Text: x.text})
		}
	}
	return l
}

func (p plainEntries) has(user int, id string) bool {
	return slices.ContainsFunc(p, func(x waiting) bool { return x.user == user && x.id == id })
}

func (p plainEntries) with(user int, id, text string) plainEntries {
	return append(slices.Clone(p), waiting{user, id, text})
}

func (p plainEntries) without(user int, id string) plainEntries {
	return slices.DeleteFunc(slices.Clone(p), func(x waiting) bool { return x.user == user && x.id == id })
}

// same tells whether each box has the same entries: in which order they came to different boxes, nobody can tell.
func (p plainEntries) same(as plainEntries) bool { return slices.Equal(p.short(), as.short()) }

// short is the chapter's word.
func (p plainEntries) short() (l []string) {
	for user := range 64 {
		for _, x := range p.of(user) {
			l = append(l, recordP(user, x.Id, x.Text))
		}
	}
	return l
}

// behind is what records make, and whether all may be.
func (p plainEntries) behind(records ...string) (plainEntries, bool) {
	for _, r := range records {
		if len(r) < 18 || r[1] > 63 || r[2:18] == noId {
			return nil, false
		}
		user, id, text, there := int(r[1]), r[2:18], r[18:], p.has(int(r[1]), r[2:18])
		switch {
		case r[0] == 'P' && len(text) <= 222 && !there:
			p = p.with(user, id, text)
		case r[0] == 'A' && text == "" && there:
			p = p.without(user, id)
		default:
			return nil, false
		}
	}
	return p, true
}

const noId = "\x00\x00\x00\x00\x00\x00\x00\x00\x00\x00\x00\x00\x00\x00\x00\x00"

func recordP(user int, id, text string) string {
	return fmt.Sprintf("P%s%s%s", oneByte(user), id, text)
}

func recordA(user int, id string) string { return fmt.Sprintf("A%s%s", oneByte(user), id) }

func oneByte(n int) string { return string([]byte{byte(n)}) }

// plainBoxes is boxes by the chapter's words, on a log (chapter 16) of a disk of its own.
type plainBoxes struct {
	plainEntries
	l     *log.Log
	quota int
}

// openPlain is 18.1.
func openPlain(d *disk.Disk, quota int) (*plainBoxes, api.Errno) {
	if quota < 1 || quota > 256 {
		return nil, api.ErrRange
	}
	l, e := log.Open(d)
	if e != api.OK {
		return nil, e
	}
	all, ok := plainEntries{}.behind(l.Records()...)
	if !ok {
		return nil, api.ErrRot
	}
	return &plainBoxes{all, l, quota}, api.OK
}

// write is the chapter's word: what is asked of the log, in order.
func (p *plainBoxes) write(records ...string) api.Errno {
	will, _ := p.behind(records...)
	for _, r := range records {
		e := p.l.Append(r)
		if e == api.ErrSpace {
			e = p.l.Compact(will.short()...)
			if e == api.OK {
				p.plainEntries = will
			}
			return e
		}
		if e != api.OK {
			return e
		}
	}
	e := p.l.Sync()
	if e == api.OK {
		p.plainEntries = will
	}
	return e
}

// put is 18.2.
func (p *plainBoxes) put(user int, id, text string) api.Errno {
	switch {
	case user < 0 || user > 63:
		return api.ErrRange
	case len(id) != 16 || id == noId:
		return api.ErrForm
	case len(text) > 222:
		return api.ErrLong
	case p.has(user, id):
		return api.ErrThere
	case len(p.of(user)) >= p.quota:
		return api.ErrFull
	}
	return p.write(recordP(user, id, text))
}

// first is 18.2.
func (p *plainBoxes) first(user, n int) ([]api.Slot, api.Errno) {
	if user < 0 || user > 63 || n < 0 || n > 256 {
		return nil, api.ErrRange
	}
	l := p.of(user)
	return l[:min(n, len(l))], api.OK
}

// ack is 18.3. Where the log is at its last generation, and one of several As would find no room, nothing is written (R5).
func (p *plainBoxes) ack(user int, ids ...string) (int, api.Errno) {
	if user < 0 || user > 63 {
		return 0, api.ErrRange
	}
	var records []string
	for _, id := range ids {
		if len(id) != 16 || id == noId {
			return 0, api.ErrForm
		}
		if r := recordA(user, id); p.has(user, id) && !slices.Contains(records, r) {
			records = append(records, r)
		}
	}
	switch {
	case len(ids) > 256:
		return 0, api.ErrLong
	case len(records) == 0:
		return 0, api.OK
	case p.l.Generation() == 1<<31-1 && len(records) > p.l.Room():
		return 0, api.ErrLong
	}
	if e := p.write(records...); e != api.OK {
		return 0, e
	}
	return len(records), api.OK
}

// pair is a disk and boxes on it, and a disk with plain ones that each call is held against.
type pair struct {
	t     *testing.T
	d, pd *disk.Disk
	down  bool
	b     *boxes.Boxes // nil: there are none that may be asked
	p     *plainBoxes  // as b
}

// newPair is a disk without boxes.
func newPair(t *testing.T, sectors int) *pair {
	t.Helper()
	return &pair{t: t, d: newDisk(t, sectors), pd: newDisk(t, sectors)}
}

// opened is a pair with boxes.
func opened(t *testing.T, sectors, quota int) *pair {
	t.Helper()
	x := newPair(t, sectors)
	is(t, x.open(quota), api.OK)
	return x
}

func newDisk(t *testing.T, sectors int) *disk.Disk {
	t.Helper()
	d, e := disk.New(sectors)
	is(t, e, api.OK)
	return d
}

// looks fails unless each sector, how many writes wait, and what each box has are as those of the plain ones.
func (x *pair) looks() {
	x.t.Helper()
	if n, want := x.d.Waits(), x.pd.Waits(); n != want {
		x.t.Fatalf("%d writes wait; want %d", n, want)
	}
	for i := range x.d.Size() {
		s, e := x.d.Read(i)
		if want, wantE := x.pd.Read(i); s != want || e != wantE {
			x.t.Fatalf("the sector %d is %q, error %d; want %q, %d", i, s, e, want, wantE)
		}
	}
	if x.b != nil {
		tells(x.t, x.b, x.p.plainEntries)
	}
}

// tells fails unless boxes have these entries, and no other.
func tells(t *testing.T, b *boxes.Boxes, want plainEntries) {
	t.Helper()
	for user := -1; user <= 64; user++ {
		l := want.of(user)
		if n := b.Len(user); n != len(l) {
			t.Fatalf("Len(%d): %d; want %d", user, n, len(l))
		}
		if user < 0 || user > 63 {
			continue
		}
		got, e := b.First(user, 256)
		if l = l[:min(len(l), 256)]; e != api.OK || !slices.Equal(got, l) {
			t.Fatalf("First(%d, 256): %q, error %d; want %q", user, got, e, l)
		}
	}
}

// said fails unless both answered the same, and are the same now. Boxes whose disk is down are not asked any more.
func (x *pair) said(call string, e, want api.Errno) api.Errno {
	x.t.Helper()
	if e != want {
		x.t.Fatalf("%s: error %d; want %d", call, e, want)
	}
	if e == api.ErrDown {
		x.down, x.b, x.p = true, nil, nil
	}
	x.looks()
	return e
}

func (x *pair) open(quota int) api.Errno {
	x.t.Helper()
	b, e := boxes.Open(x.d, quota)
	p, want := openPlain(x.pd, quota)
	if (b == nil) != (p == nil) {
		x.t.Fatalf("Open: boxes %t, error %d; want error %d", b != nil, e, want)
	}
	x.b, x.p = b, p
	return x.said("Open", e, want)
}

func (x *pair) put(user int, id, text string) api.Errno {
	x.t.Helper()
	return x.said(fmt.Sprintf("Put(%d, %q, %q)", user, id, text), x.b.Put(user, id, text), x.p.put(user, id, text))
}

func (x *pair) first(user, n int) ([]api.Slot, api.Errno) {
	x.t.Helper()
	got, e := x.b.First(user, n)
	want, wantE := x.p.first(user, n)
	if !slices.Equal(got, want) {
		x.t.Fatalf("First(%d, %d): %q; want %q", user, n, got, want)
	}
	return got, x.said(fmt.Sprintf("First(%d, %d)", user, n), e, wantE)
}

// ack fails, too, if the ids that were handed in are changed.
func (x *pair) ack(user int, ids ...string) (int, api.Errno) {
	x.t.Helper()
	was := slices.Clone(ids)
	n, e := x.b.Ack(user, ids...)
	want, wantE := x.p.ack(user, ids...)
	if n != want {
		x.t.Fatalf("Ack(%d, %q): %d, error %d; want %d, %d", user, ids, n, e, want, wantE)
	}
	if !slices.Equal(ids, was) {
		x.t.Fatalf("Ack(%d, %q) left %q of the ids", user, was, ids)
	}
	return n, x.said(fmt.Sprintf("Ack(%d, %q)", user, ids), e, wantE)
}

func (x *pair) fuse(n int) {
	x.t.Helper()
	x.said("Fuse", x.d.Fuse(n), x.pd.Fuse(n))
}

// crash leaves no boxes that may be asked.
func (x *pair) crash(picks ...int) {
	x.t.Helper()
	x.b, x.p, x.down = nil, nil, false
	x.said("Crash", x.d.Crash(picks...), x.pd.Crash(picks...))
}

// lays brings records onto both disks by a log alone, and leaves no boxes that may be asked.
func (x *pair) lays(records ...string) {
	x.t.Helper()
	x.b, x.p = nil, nil
	lay(x.t, x.d, records...)
	lay(x.t, x.pd, records...)
	x.looks()
}

// writes brings a sector onto both disks by hand, for good.
func (x *pair) writes(sector int, text string) {
	x.t.Helper()
	x.said("Write", x.d.Write(sector, text), x.pd.Write(sector, text))
	x.said("Sync", x.d.Sync(), x.pd.Sync())
}

// lay appends records by a log alone.
func lay(t *testing.T, d *disk.Disk, records ...string) {
	t.Helper()
	l, e := log.Open(d)
	is(t, e, api.OK)
	for _, r := range records {
		is(t, l.Append(r), api.OK)
	}
	is(t, l.Sync(), api.OK)
}

// holds fails unless these records lie on a disk, in a half of that generation.
func holds(t *testing.T, d *disk.Disk, generation int, records ...string) {
	t.Helper()
	l, e := log.Open(d)
	is(t, e, api.OK)
	if got := l.Records(); !slices.Equal(got, records) || l.Generation() != generation {
		t.Fatalf("the records are %q, generation %d; want %q, %d", got, l.Generation(), records, generation)
	}
}

// head is the first sector of a half of that generation.
func head(generation int) string {
	front := "LOG\x00" + string(binary.BigEndian.AppendUint32(nil, uint32(generation)))
	sum := sha256.Sum256([]byte(front))
	return front + string(sum[:16]) + strings.Repeat("\x00", 40)
}

// is fails unless an answer is this.
func is(t *testing.T, got, want api.Errno) {
	t.Helper()
	if got != want {
		t.Fatalf("error %d; want %d", got, want)
	}
}
