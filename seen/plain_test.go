package seen_test

import (
	"crypto/sha256"
	"encoding/binary"
	"fmt"
	"slices"
	"strings"
	"testing"

	"dovecote/api"
	"dovecote/disk"
	"dovecote/log"
	"dovecote/seen"
)

// added is a tag, and the epoch in which it was added.
type added struct {
	tag   string
	epoch int
}

// plainTags is what the chapter's words tell of a set: all tags that ever were added, and the epoch. It is not changed: what befalls it makes another one.
type plainTags struct {
	epoch int
	ever  []added
}

// of is the tags that are there of an epoch.
func (p plainTags) of(epoch int) (l []string) {
	for _, x := range p.ever {
		if x.epoch == epoch {
			l = append(l, x.tag)
		}
	}
	return l
}

func (p plainTags) there() []string { return append(p.of(p.epoch-1), p.of(p.epoch)...) }

func (p plainTags) has(tag string) bool { return slices.Contains(p.there(), tag) }

func (p plainTags) with(tag string) plainTags {
	if p.has(tag) {
		return p
	}
	return plainTags{p.epoch, append(slices.Clone(p.ever), added{tag, p.epoch})}
}

func (p plainTags) in(epoch int) plainTags { return plainTags{epoch, p.ever} }

func (p plainTags) same(as plainTags) bool {
	return p.epoch == as.epoch && slices.Equal(p.there(), as.there())
}

// short is the chapter's word.
func (p plainTags) short() (l []string) {
	if len(p.of(p.epoch-1)) > 0 {
		l = append(l, recordE(p.epoch-1))
		l = append(l, recordsT(p.of(p.epoch-1)...)...)
	}
	l = append(l, recordE(p.epoch))
	return append(l, recordsT(p.of(p.epoch)...)...)
}

// behind is what records make, and whether all may be.
func (p plainTags) behind(records ...string) (plainTags, bool) {
	for _, r := range records {
		switch {
		case len(r) == 17 && r[0] == 'T':
			p = p.with(r[1:])
		case len(r) == 5 && r[0] == 'E' && p.mayBe(int(binary.BigEndian.Uint32([]byte(r[1:])))):
			p = p.in(int(binary.BigEndian.Uint32([]byte(r[1:]))))
		default:
			return plainTags{}, false
		}
	}
	return p, true
}

// mayBe tells whether a record E of that number may be: epochs do not go back, and end at 2^31 - 1.
func (p plainTags) mayBe(epoch int) bool { return epoch >= p.epoch && epoch <= 1<<31-1 }

func recordE(epoch int) string {
	return "E" + string(binary.BigEndian.AppendUint32(nil, uint32(epoch)))
}

func recordT(tag string) string { return "T" + tag }

func recordsT(tags ...string) (l []string) {
	for _, tag := range tags {
		l = append(l, recordT(tag))
	}
	return l
}

// plainSet is a set by the chapter's words, on a log (chapter 16) of a disk of its own.
type plainSet struct {
	plainTags
	l    *log.Log
	most int
}

// openPlain is 17.1.
func openPlain(d *disk.Disk, most int) (*plainSet, api.Errno) {
	if most < 1 || most > 4096 {
		return nil, api.ErrRange
	}
	l, e := log.Open(d)
	if e != api.OK {
		return nil, e
	}
	tags, ok := plainTags{}.behind(l.Records()...)
	if !ok {
		return nil, api.ErrRot
	}
	return &plainSet{tags, l, most}, api.OK
}

// write is the chapter's word: what is asked of the log, in order.
func (p *plainSet) write(record string) api.Errno {
	e := p.l.Append(record)
	if e == api.ErrSpace {
		if e := p.l.Compact(p.short()...); e != api.OK {
			return e
		}
		e = p.l.Append(record)
	}
	if e != api.OK {
		return e
	}
	return p.l.Sync()
}

// add is 17.2.
func (p *plainSet) add(tag string) api.Errno {
	switch {
	case len(tag) != 16:
		return api.ErrForm
	case p.has(tag):
		return api.ErrSeen
	case len(p.there()) >= p.most:
		return api.ErrFull
	}
	e := p.write(recordT(tag))
	if e == api.OK {
		p.plainTags = p.with(tag)
	}
	return e
}

// rotate is 17.2.
func (p *plainSet) rotate() api.Errno {
	if p.epoch == 1<<31-1 {
		return api.ErrRange
	}
	e := p.write(recordE(p.epoch + 1))
	if e == api.OK {
		p.plainTags = p.in(p.epoch + 1)
	}
	return e
}

// pair is a disk and a set on it, and a disk with a plain set that each call is held against.
type pair struct {
	t     *testing.T
	d, pd *disk.Disk
	down  bool
	s     *seen.Set // nil: there is none that may be asked
	p     *plainSet // as s
}

// newPair is a disk without a set.
func newPair(t *testing.T, sectors int) *pair {
	t.Helper()
	return &pair{t: t, d: newDisk(t, sectors), pd: newDisk(t, sectors)}
}

// opened is a pair with a set.
func opened(t *testing.T, sectors, most int) *pair {
	t.Helper()
	x := newPair(t, sectors)
	is(t, x.open(most), api.OK)
	return x
}

func newDisk(t *testing.T, sectors int) *disk.Disk {
	t.Helper()
	d, e := disk.New(sectors)
	is(t, e, api.OK)
	return d
}

// looks fails unless each sector, how many writes wait, and what the set tells are as those of the plain ones.
func (x *pair) looks() {
	x.t.Helper()
	if n, want := x.d.Waits(), x.pd.Waits(); n != want {
		x.t.Fatalf("%d writes wait; want %d", n, want)
	}
	for i := range x.d.Size() {
		s, e := x.d.Read(i)
		if want, wantE := x.pd.Read(i); s != want || e != wantE {
			x.t.Fatalf("the sector %d is %q, error %d; want %q, %d", i, s, e, want, wantE)
		}
	}
	if x.s != nil {
		tells(x.t, x.s, x.p.epoch, x.p.there()...)
		for _, a := range x.p.ever {
			hasJust(x.t, x.s, a.tag, x.p.has(a.tag))
		}
	}
}

// tells fails unless a set answers this.
func tells(t *testing.T, s *seen.Set, epoch int, tags ...string) {
	t.Helper()
	if n := s.Epoch(); n != epoch {
		t.Fatalf("Epoch: %d; want %d", n, epoch)
	}
	if got := s.Tags(); !slices.Equal(got, tags) {
		t.Fatalf("Tags: %q; want %q", got, tags)
	}
	for _, tag := range tags {
		hasJust(t, s, tag, true)
	}
}

func hasJust(t *testing.T, s *seen.Set, tag string, want bool) {
	t.Helper()
	if s.Has(tag) != want {
		t.Fatalf("Has(%q): %t", tag, !want)
	}
}

// said fails unless both answered the same, and are the same now. A set whose disk is down is not asked any more.
func (x *pair) said(call string, e, want api.Errno) api.Errno {
	x.t.Helper()
	if e != want {
		x.t.Fatalf("%s: error %d; want %d", call, e, want)
	}
	if e == api.ErrDown {
		x.down, x.s, x.p = true, nil, nil
	}
	x.looks()
	return e
}

func (x *pair) open(most int) api.Errno {
	x.t.Helper()
	s, e := seen.Open(x.d, most)
	p, want := openPlain(x.pd, most)
	if (s == nil) != (p == nil) {
		x.t.Fatalf("Open: a set %t, error %d; want error %d", s != nil, e, want)
	}
	x.s, x.p = s, p
	return x.said("Open", e, want)
}

func (x *pair) add(tag string) api.Errno {
	x.t.Helper()
	return x.said(fmt.Sprintf("Add(%q)", tag), x.s.Add(tag), x.p.add(tag))
}

func (x *pair) rotate() api.Errno {
	x.t.Helper()
	return x.said("Rotate", x.s.Rotate(), x.p.rotate())
}

func (x *pair) fuse(n int) {
	x.t.Helper()
	x.said("Fuse", x.d.Fuse(n), x.pd.Fuse(n))
}

// crash leaves no set that may be asked.
func (x *pair) crash(picks ...int) {
	x.t.Helper()
	x.s, x.p, x.down = nil, nil, false
	x.said("Crash", x.d.Crash(picks...), x.pd.Crash(picks...))
}

// lays brings records onto both disks by a log alone, and leaves no set that may be asked.
func (x *pair) lays(records ...string) {
	x.t.Helper()
	x.s, x.p = nil, nil
	lay(x.t, x.d, records...)
	lay(x.t, x.pd, records...)
	x.looks()
}

// lay appends records by a log alone.
func lay(t *testing.T, d *disk.Disk, records ...string) {
	t.Helper()
	l, e := log.Open(d)
	is(t, e, api.OK)
	for _, r := range records {
		is(t, l.Append(r), api.OK)
	}
	is(t, l.Sync(), api.OK)
}

// holds fails unless these records lie on a disk, in a half of that generation.
func holds(t *testing.T, d *disk.Disk, generation int, records ...string) {
	t.Helper()
	l, e := log.Open(d)
	is(t, e, api.OK)
	if got := l.Records(); !slices.Equal(got, records) || l.Generation() != generation {
		t.Fatalf("the records are %q, generation %d; want %q, %d", got, l.Generation(), records, generation)
	}
}

// head is the first sector of a half of that generation.
func head(generation int) string {
	front := "LOG\x00" + string(binary.BigEndian.AppendUint32(nil, uint32(generation)))
	sum := sha256.Sum256([]byte(front))
	return front + string(sum[:16]) + strings.Repeat("\x00", 40)
}

// is fails unless an answer is this.
func is(t *testing.T, got, want api.Errno) {
	t.Helper()
	if got != want {
		t.Fatalf("error %d; want %d", got, want)
	}
}
