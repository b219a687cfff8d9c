package log_test

import (
	"crypto/sha256"
	"encoding/binary"
	"slices"
	"strings"
	"testing"

	"dovecote/api"
	"dovecote/disk"
	"dovecote/log"
)

const (
	sectorLong  = 64
	frontLong   = 18 // bytes of a record ahead of its text
	textMost    = 2000
	sectorsMost = 1024
)

// written is what the plain disk below keeps of a write that waits.
type written struct {
	sector int
	text   string
}

// plainDisk is a disk by chapter 15's words: texts, a list of writes, and the number of the write or sync that will not be done.
type plainDisk struct {
	synced         []string
	waits          []written
	calls, through int
	down           bool
}

func newPlainDisk(sectors int) *plainDisk {
	return &plainDisk{synced: slices.Repeat([]string{all(0)}, sectors)}
}

// shows is what is read of each sector.
func (p *plainDisk) shows() []string {
	l := slices.Clone(p.synced)
	for _, w := range p.waits {
		l[w.sector] = w.text
	}
	return l
}

// counts tells whether a write or sync is done.
func (p *plainDisk) counts() bool {
	if p.down {
		return false
	}
	p.calls++
	p.down = p.calls == p.through
	return !p.down
}

func (p *plainDisk) write(sector int, text string) api.Errno {
	if !p.counts() {
		return api.ErrDown
	}
	p.waits = append(p.waits, written{sector, text})
	return api.OK
}

func (p *plainDisk) sync() api.Errno {
	if !p.counts() {
		return api.ErrDown
	}
	p.synced, p.waits = p.shows(), nil
	return api.OK
}

func (p *plainDisk) fuse(n int) {
	p.through = 0
	if n > 0 {
		p.through = p.calls + n
	}
}

func (p *plainDisk) crash(picks ...int) {
	for i, w := range p.waits {
		many := 0
		if i < len(picks) {
			many = picks[i] % 65
		}
		p.synced[w.sector] = w.text[:many] + p.synced[w.sector][many:]
	}
	p.waits, p.through, p.down = nil, 0, false
}

// plainLog is a log by the chapter's words.
type plainLog struct {
	d                *plainDisk
	half, generation int
	texts            []string
}

// openPlain is 16.1.
func openPlain(d *plainDisk) (*plainLog, api.Errno) {
	long := len(d.synced) / 2
	if long < 2 {
		return nil, api.ErrShape
	}
	if d.down {
		return nil, api.ErrDown
	}
	used := &plainLog{d: d}
	for half := range 2 {
		lie := d.shows()[half*long : (half+1)*long]
		if n := rightHead(lie[0]); n > used.generation {
			used.half, used.generation, used.texts = half, n, rightRecords(lie)
		}
	}
	var e api.Errno
	if used.generation == 0 {
		e = used.begin(0, 1, nil)
	} else {
		e = used.clean(used.half, len(laid(used.generation, used.texts...)))
	}
	if e != api.OK {
		return nil, e
	}
	return used, api.OK
}

// clean is the chapter's word.
func (p *plainLog) clean(half, from int) api.Errno {
	shows, some := p.d.shows(), false
	for i := from; i < p.long(); i++ {
		if shows[half*p.long()+i] == all(0) {
			continue
		}
		some = true
		if e := p.d.write(half*p.long()+i, all(0)); e != api.OK {
			return e
		}
	}
	if some {
		return p.d.sync()
	}
	return api.OK
}

// begin is the chapter's word.
func (p *plainLog) begin(half, generation int, texts []string) api.Errno {
	if e := p.clean(half, 0); e != api.OK {
		return e
	}
	sectors := laid(generation, texts...)
	if e := p.put(half, 1, sectors[1:]); e != api.OK {
		return e
	}
	if e := p.d.sync(); e != api.OK {
		return e
	}
	if e := p.put(half, 0, sectors[:1]); e != api.OK {
		return e
	}
	if e := p.d.sync(); e != api.OK {
		return e
	}
	p.half, p.generation, p.texts = half, generation, slices.Clone(texts)
	return api.OK
}

// put writes sectors of a half, from one on.
func (p *plainLog) put(half, from int, sectors []string) api.Errno {
	for i, s := range sectors {
		if e := p.d.write(half*p.long()+from+i, s); e != api.OK {
			return e
		}
	}
	return api.OK
}

func (p *plainLog) long() int { return len(p.d.synced) / 2 }

func (p *plainLog) room() int { return p.long() - len(laid(p.generation, p.texts...)) }

// append is 16.2.
func (p *plainLog) append(text string) api.Errno {
	had := len(laid(p.generation, p.texts...))
	will := append(slices.Clone(p.texts), text)
	sectors := laid(p.generation, will...)
	switch {
	case text == "":
		return api.ErrRange
	case len(text) > textMost:
		return api.ErrLong
	case len(sectors) > p.long():
		return api.ErrSpace
	}
	if e := p.put(p.half, had, sectors[had:]); e != api.OK {
		return e
	}
	p.texts = will
	return api.OK
}

// compact is 16.3.
func (p *plainLog) compact(texts ...string) api.Errno {
	for _, text := range texts {
		if text == "" {
			return api.ErrRange
		}
		if len(text) > textMost {
			return api.ErrLong
		}
	}
	switch {
	case len(laid(1, texts...)) > p.long():
		return api.ErrSpace
	case p.generation == 1<<31-1:
		return api.ErrLong
	}
	return p.begin(1-p.half, p.generation+1, texts)
}

// rightHead is the generation of a head; 0: it is not right. Generations end at 2^31 - 1.
func rightHead(sector string) int {
	generation := int(binary.BigEndian.Uint32([]byte(sector[4:8])))
	if sector[:4] != "LOG\x00" || generation < 1 || generation > 1<<31-1 || sector[8:24] != digest(sector[:8]) || sector[24:] != all(0)[24:] {
		return 0
	}
	return generation
}

// rightRecords is the texts of a half whose head is right.
func rightRecords(half []string) (texts []string) {
	mark, rest := half[0][8:24], strings.Join(half[1:], "")
	for rest != "" {
		long := int(rest[0])*256 + int(rest[1])
		if long < 1 || long > textMost || frontLong+long > len(rest) {
			break
		}
		text := rest[frontLong : frontLong+long]
		end := (frontLong + long + 63) / 64 * 64
		if rest[2:frontLong] != digest(mark, rest[:2], text) || strings.Trim(rest[frontLong+long:end], "\x00") != "" {
			break
		}
		mark, texts, rest = rest[2:frontLong], append(texts, text), rest[end:]
	}
	return texts
}

// laid is a half's sectors: its head, and the texts' records.
func laid(generation int, texts ...string) []string {
	front := "LOG\x00" + string(binary.BigEndian.AppendUint32(nil, uint32(generation)))
	mark := digest(front)
	l := cut(front + mark)
	for _, text := range texts {
		var sectors []string
		sectors, mark = laidRecord(mark, text)
		l = append(l, sectors...)
	}
	return l
}

// laidRecord is a record's sectors, and its mark.
func laidRecord(ahead, text string) ([]string, string) {
	long := string([]byte{byte(len(text) / 256), byte(len(text) % 256)})
	mark := digest(ahead, long, text)
	return cut(long + mark + text), mark
}

// cut is sectors, the last one filled up by bytes 0.
func cut(s string) (l []string) {
	for ; len(s) > sectorLong; s = s[sectorLong:] {
		l = append(l, s[:sectorLong])
	}
	return append(l, s+all(0)[len(s):])
}

// digest is the first 16 bytes of the pieces' one.
func digest(pieces ...string) string {
	sum := sha256.Sum256([]byte(strings.Join(pieces, "")))
	return string(sum[:16])
}

// all is a sector of one byte, again and again.
func all(c byte) string { return strings.Repeat(string([]byte{c}), sectorLong) }

// pair is a disk and a log on it, and plain ones that each call is held against.
type pair struct {
	t *testing.T
	d *disk.Disk
	p *plainDisk
	l *log.Log  // nil: there is none that may be asked
	m *plainLog // as l
}

// newPair is a disk without a log.
func newPair(t *testing.T, sectors int) *pair {
	t.Helper()
	return &pair{t: t, d: newDisk(t, sectors), p: newPlainDisk(sectors)}
}

// opened is a pair with a log.
func opened(t *testing.T, sectors int) *pair {
	t.Helper()
	x := newPair(t, sectors)
	if e := x.open(); e != api.OK {
		t.Fatalf("Open on %d sectors: error %d", sectors, e)
	}
	return x
}

func newDisk(t *testing.T, sectors int) *disk.Disk {
	t.Helper()
	d, e := disk.New(sectors)
	if e != api.OK {
		t.Fatalf("disk.New(%d): error %d", sectors, e)
	}
	return d
}

// looks fails unless each sector, how many writes wait, and what the log tells are as those of the plain ones.
func (x *pair) looks() {
	x.t.Helper()
	if n := x.d.Waits(); n != len(x.p.waits) {
		x.t.Fatalf("%d writes wait; want %d", n, len(x.p.waits))
	}
	for i, want := range x.p.shows() {
		s, e := x.d.Read(i)
		if x.p.down {
			if e != api.ErrDown {
				x.t.Fatalf("the disk is not down: error %d", e)
			}
			break
		}
		if s != want || e != api.OK {
			x.t.Fatalf("the sector %d is %x, error %d; want %x", i, s, e, want)
		}
	}
	if x.l != nil {
		tells(x.t, x.l, x.m.generation, x.m.room(), x.m.texts...)
	}
}

// tells fails unless a log answers this.
func tells(t *testing.T, l *log.Log, generation, room int, texts ...string) {
	t.Helper()
	if got := l.Records(); !slices.Equal(got, texts) {
		t.Fatalf("Records: %q; want %q", got, texts)
	}
	if n := l.Room(); n != room {
		t.Fatalf("Room: %d; want %d", n, room)
	}
	if n := l.Generation(); n != generation {
		t.Fatalf("Generation: %d; want %d", n, generation)
	}
}

// said holds an answer, and all that can be told behind it, against the plain one's. A log whose disk was down is not asked any more.
func (x *pair) said(call string, got, want api.Errno) api.Errno {
	x.t.Helper()
	if got != want {
		x.t.Fatalf("%s: error %d; want %d", call, got, want)
	}
	if got == api.ErrDown {
		x.l, x.m = nil, nil
	}
	x.looks()
	return got
}

func (x *pair) open() api.Errno {
	x.t.Helper()
	l, e := log.Open(x.d)
	m, want := openPlain(x.p)
	if (l == nil) != (m == nil) {
		x.t.Fatalf("Open: a log %t, error %d; want error %d", l != nil, e, want)
	}
	x.l, x.m = l, m
	return x.said("Open", e, want)
}

func (x *pair) append(text string) api.Errno {
	x.t.Helper()
	return x.said("Append", x.l.Append(text), x.m.append(text))
}

func (x *pair) sync() api.Errno {
	x.t.Helper()
	return x.said("Sync", x.l.Sync(), x.p.sync())
}

func (x *pair) compact(texts ...string) api.Errno {
	x.t.Helper()
	return x.said("Compact", x.l.Compact(texts...), x.m.compact(texts...))
}

func (x *pair) fuse(n int) {
	x.t.Helper()
	x.p.fuse(n)
	x.said("Fuse", x.d.Fuse(n), api.OK)
}

// crash leaves no log that may be asked.
func (x *pair) crash(picks ...int) {
	x.t.Helper()
	x.l, x.m = nil, nil
	x.p.crash(picks...)
	x.said("Crash", x.d.Crash(picks...), api.OK)
}

// lays brings sectors onto the disk by hand, from one on, and leaves no log that may be asked.
func (x *pair) lays(from int, sectors ...string) {
	x.t.Helper()
	x.l, x.m = nil, nil
	for i, s := range sectors {
		x.p.write(from+i, s)
		x.said("Write", x.d.Write(from+i, s), api.OK)
	}
	x.p.sync()
	x.said("Sync", x.d.Sync(), api.OK)
}

// is fails unless an answer is this.
func is(t *testing.T, got, want api.Errno) {
	t.Helper()
	if got != want {
		t.Fatalf("error %d; want %d", got, want)
	}
}
