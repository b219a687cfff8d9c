package disk_test

import (
	"fmt"
	"math"
	"math/rand"
	"slices"
	"strings"
	"sync"
	"testing"
	"unsafe"

	"dovecote/api"
	"dovecote/disk"
)

const (
	sectorLong  = 64
	sectorsMost = 1024
	fuseMost    = 1 << 20
)

// written is what the plain disk below keeps of a write that waits.
type written struct {
	sector int
	text   string
}

// plain is a disk by the chapter's words: texts, a list of writes, and the number of the write or sync that will not be done.
type plain struct {
	synced  []string
	waits   []written
	calls   int // writes and syncs, as far as they count
	through int // the number of the one at which the fuse is through; 0: there is no fuse
	down    bool
}

func newPlain(sectors int) plain {
	return plain{synced: slices.Repeat([]string{all(0)}, sectors)}
}

// shows is what is read of each sector.
func (p *plain) shows() []string {
	l := slices.Clone(p.synced)
	for _, w := range p.waits {
		l[w.sector] = w.text
	}
	return l
}

// counts tells whether a write or sync that may be is done.
func (p *plain) counts() bool {
	p.calls++
	p.down = p.calls == p.through
	return !p.down
}

func (p *plain) Write(sector int, text string) api.Errno {
	switch {
	case p.down:
		return api.ErrDown
	case sector < 0 || sector >= len(p.synced):
		return api.ErrRange
	case len(text) != sectorLong:
		return api.ErrForm
	case !p.counts():
		return api.ErrDown
	}
	p.waits = append(p.waits, written{sector, text})
	return api.OK
}

func (p *plain) Sync() api.Errno {
	if p.down || !p.counts() {
		return api.ErrDown
	}
	p.synced, p.waits = p.shows(), nil
	return api.OK
}

func (p *plain) Fuse(n int) api.Errno {
	switch {
	case p.down:
		return api.ErrDown
	case n < 0 || n > fuseMost:
		return api.ErrRange
	case n == 0:
		p.through = 0
	default:
		p.through = p.calls + n
	}
	return api.OK
}

func (p *plain) Crash(picks ...int) api.Errno {
	for i, w := range p.waits {
		many := 0
		if i < len(picks) {
			many = modulo65(picks[i])
		}
		p.synced[w.sector] = w.text[:many] + p.synced[w.sector][many:]
	}
	p.waits, p.through, p.down = nil, 0, false
	return api.OK
}

// modulo65 is the number from 0 to 64 that is the same modulo 65.
func modulo65(n int) int {
	for n %= 65; n < 0; {
		n += 65
	}
	return n
}

// pair is a disk, and a plain one that each of its calls is held against.
type pair struct {
	t *testing.T
	d *disk.Disk
	p plain
}

func newPair(t *testing.T, sectors int) *pair {
	t.Helper()
	x := &pair{t, open(t, sectors), newPlain(sectors)}
	x.looks()
	return x
}

// looks fails unless the size, each sector, those that there are not, and how many writes wait are as the plain disk's.
func (x *pair) looks() {
	x.t.Helper()
	if n := x.d.Size(); n != len(x.p.synced) {
		x.t.Fatalf("Size: %d; want %d", n, len(x.p.synced))
	}
	if n := x.d.Waits(); n != len(x.p.waits) {
		x.t.Fatalf("Waits: %d; want %d", n, len(x.p.waits))
	}
	none := api.ErrRange
	if x.p.down {
		none = api.ErrDown
	}
	isRead(x.t, x.d, -1, "", none)
	isRead(x.t, x.d, len(x.p.synced), "", none)
	for i, want := range x.p.shows() {
		if x.p.down {
			isRead(x.t, x.d, i, "", api.ErrDown)
		} else {
			isRead(x.t, x.d, i, want, api.OK)
		}
	}
}

func (x *pair) write(sector int, text string) api.Errno {
	x.t.Helper()
	want := x.p.Write(sector, text)
	isWrite(x.t, x.d, sector, text, want)
	x.looks()
	return want
}

func (x *pair) sync() api.Errno {
	x.t.Helper()
	want := x.p.Sync()
	isSync(x.t, x.d, want)
	x.looks()
	return want
}

func (x *pair) fuse(n int) api.Errno {
	x.t.Helper()
	want := x.p.Fuse(n)
	isFuse(x.t, x.d, n, want)
	x.looks()
	return want
}

func (x *pair) crash(picks ...int) api.Errno {
	x.t.Helper()
	x.p.Crash(picks...)
	isCrash(x.t, x.d, picks...)
	x.looks()
	return api.OK
}

// open is a new disk.
func open(t *testing.T, sectors int) *disk.Disk {
	t.Helper()
	d, e := disk.New(sectors)
	if d == nil || e != api.OK {
		t.Fatalf("New(%d): error %d", sectors, e)
	}
	return d
}

// isRead, isWrite, isSync, isFuse, isCrash and waits fail unless a disk answers this.
func isRead(t *testing.T, d *disk.Disk, sector int, want string, wantE api.Errno) {
	t.Helper()
	if s, e := d.Read(sector); s != want || e != wantE {
		t.Fatalf("Read(%d): %q, error %d; want %q, error %d", sector, s, e, want, wantE)
	}
}

func isWrite(t *testing.T, d *disk.Disk, sector int, text string, want api.Errno) {
	t.Helper()
	if e := d.Write(sector, text); e != want {
		t.Fatalf("Write(%d, %d bytes): error %d; want %d", sector, len(text), e, want)
	}
}

func isSync(t *testing.T, d *disk.Disk, want api.Errno) {
	t.Helper()
	if e := d.Sync(); e != want {
		t.Fatalf("Sync: error %d; want %d", e, want)
	}
}

func isFuse(t *testing.T, d *disk.Disk, n int, want api.Errno) {
	t.Helper()
	if e := d.Fuse(n); e != want {
		t.Fatalf("Fuse(%d): error %d; want %d", n, e, want)
	}
}

func isCrash(t *testing.T, d *disk.Disk, picks ...int) {
	t.Helper()
	if e := d.Crash(picks...); e != api.OK {
		t.Fatalf("Crash(%v): error %d", picks, e)
	}
}

func waits(t *testing.T, d *disk.Disk, want int) {
	t.Helper()
	if n := d.Waits(); n != want {
		t.Fatalf("Waits: %d; want %d", n, want)
	}
}

// all is a sector of one byte, again and again.
func all(c byte) string { return strings.Repeat(string([]byte{c}), sectorLong) }

// torn is a sector of n bytes of one kind, and the others of another.
func torn(n int, front, behind byte) string { return all(front)[:n] + all(behind)[n:] }

// drawnText is bytes of any kind.
func drawnText(by *rand.Rand, long int) string {
	b := make([]byte, long)
	for i := range b {
		b[i] = byte(by.Intn(256))
	}
	return string(b)
}

// wrongSizes, wrongSectors (of a disk of that size), wrongTexts and wrongFuses are what may not be.
func wrongSizes() []int {
	return []int{0, -1, -2, -1024, -1025, -1 << 32, math.MinInt, math.MinInt + 1, 1025, 1026, 2048, 1 << 16, 1 << 32, 1<<32 + 1, 1<<32 + 1024, math.MaxInt - 1, math.MaxInt}
}

func wrongSectors(size int) []int {
	return []int{-1, -2, -size, -size - 1, -1 << 32, math.MinInt, math.MinInt + 1, size, size + 1, 2 * size, sectorsMost, sectorsMost + 1, 1 << 32, 1<<32 + 1, math.MaxInt - 1, math.MaxInt}
}

func wrongTexts() []string {
	var l []string
	for _, long := range []int{0, 1, 2, 32, 62, 63, 65, 66, 127, 128, 129, 192, 256 + 64, 1 << 16, 1<<16 + 64} {
		l = append(l, strings.Repeat("w", long))
	}
	return append(l, strings.Repeat("é", sectorLong), all(0)+"\x00", all(0)[1:])
}

func wrongFuses() []int {
	return []int{-1, -2, -fuseMost, -1 << 32, math.MinInt, math.MinInt + 1, fuseMost + 1, fuseMost + 2, 2 * fuseMost, 1 << 32, 1<<32 + 1, math.MaxInt - 1, math.MaxInt}
}

// takeDown is a disk whose fuse is through, its writes waiting: each sector has bytes a that were synced, then bytes b that were not.
func takeDown(t *testing.T, sectors int, bySync bool) *disk.Disk {
	t.Helper()
	d := open(t, sectors)
	for i := range sectors {
		isWrite(t, d, i, all('a'), api.OK)
	}
	isSync(t, d, api.OK)
	for i := range sectors {
		isWrite(t, d, i, all('b'), api.OK)
	}
	isFuse(t, d, 1, api.OK)
	if bySync {
		isSync(t, d, api.ErrDown)
	} else {
		isWrite(t, d, 0, all('c'), api.ErrDown)
	}
	return d
}

// Promise 15.1.

func TestNew(t *testing.T) {
	for _, sectors := range []int{1, 2, 3, 4, 7, 63, 64, 65, 100, 255, 256, 257, 512, 1000, 1023, 1024} {
		x := newPair(t, sectors)
		if x.d.Size() != sectors {
			t.Fatalf("Size: %d; want %d", x.d.Size(), sectors)
		}
		for i := range sectors {
			isRead(t, x.d, i, all(0), api.OK)
		}
		waits(t, x.d, 0)
		x.write(0, all('a'))
		x.write(sectors-1, all('z'))
		x.sync()
		x.write(0, all('b'))
		x.write(sectors-1, all('y'))
		x.crash(1, 63)
		isRead(t, x.d, sectors-1, torn(63, 'y', x.p.synced[sectors-1][63]), api.OK)
		if x.d.Size() != sectors {
			t.Fatalf("Size: %d; want %d", x.d.Size(), sectors)
		}
	}
}

func TestNewRefuses(t *testing.T) {
	for _, sectors := range wrongSizes() {
		if d, e := disk.New(sectors); d != nil || e != api.ErrRange {
			t.Errorf("New(%d): a disk %t, error %d", sectors, d != nil, e)
		}
	}
}

// TestEachSector: each sector of the greatest disk has what was written to it, and no other one has.
func TestEachSector(t *testing.T) {
	d := open(t, sectorsMost)
	text := func(i int) string { return strings.Repeat(fmt.Sprintf("%08d", i), 8) }
	for i := range sectorsMost {
		isRead(t, d, i, all(0), api.OK)
		isWrite(t, d, i, text(i), api.OK)
		waits(t, d, i+1)
	}
	has := func() {
		t.Helper()
		for i := range sectorsMost {
			isRead(t, d, i, text(i), api.OK)
		}
	}
	has()
	isSync(t, d, api.OK)
	waits(t, d, 0)
	has()
	isCrash(t, d)
	has()
}

// TestReadOfWhatWaits: what was written last, though nothing of it is synced.
func TestReadOfWhatWaits(t *testing.T) {
	d := open(t, 3)
	isWrite(t, d, 1, all('a'), api.OK)
	isRead(t, d, 0, all(0), api.OK)
	isRead(t, d, 1, all('a'), api.OK)
	isRead(t, d, 2, all(0), api.OK)
	isWrite(t, d, 1, all('b'), api.OK)
	isRead(t, d, 1, all('b'), api.OK)
	isWrite(t, d, 1, all('a'), api.OK)
	isRead(t, d, 1, all('a'), api.OK)
	waits(t, d, 3)
	isSync(t, d, api.OK)
	isRead(t, d, 1, all('a'), api.OK)
	isWrite(t, d, 1, all('c'), api.OK)
	isRead(t, d, 1, all('c'), api.OK)
	waits(t, d, 1)
	isCrash(t, d)
	isRead(t, d, 1, all('a'), api.OK)
	for range 3 {
		isRead(t, d, 0, all(0), api.OK)
		isRead(t, d, 2, all(0), api.OK)
	}
}

// TestAllBytes: sectors with each byte at each place.
func TestAllBytes(t *testing.T) {
	d := open(t, 1)
	for c := range 256 {
		b := make([]byte, sectorLong)
		for i := range b {
			b[i] = byte(c + 7*i)
		}
		isWrite(t, d, 0, string(b), api.OK)
		isRead(t, d, 0, string(b), api.OK)
		isSync(t, d, api.OK)
		isRead(t, d, 0, string(b), api.OK)
		isCrash(t, d, 64)
		isRead(t, d, 0, string(b), api.OK)
	}
}

func TestReadRefuses(t *testing.T) {
	for _, size := range []int{1, 2, 64, 1023, 1024} {
		x := newPair(t, size)
		for _, sector := range wrongSectors(size) {
			if sector >= 0 && sector < size {
				continue
			}
			isRead(t, x.d, sector, "", api.ErrRange)
		}
		x.looks()
	}
}

// TestWriteRefuses: the sector is told ahead of the text, and nothing is written.
func TestWriteRefuses(t *testing.T) {
	for _, size := range []int{1, 2, 64, 1024} {
		x := newPair(t, size)
		x.write(size-1, all('a'))
		for _, text := range append(wrongTexts(), all('w')) {
			for _, sector := range wrongSectors(size) {
				if sector < 0 || sector >= size {
					isWrite(t, x.d, sector, text, api.ErrRange)
				}
			}
		}
		for _, text := range wrongTexts() {
			isWrite(t, x.d, 0, text, api.ErrForm)
			isWrite(t, x.d, size-1, text, api.ErrForm)
		}
		x.looks()
		x.crash(64, 64)
	}
}

// TestEachLength: of all texts, those of 64 bytes alone may be.
func TestEachLength(t *testing.T) {
	x := newPair(t, 2)
	for long := range 400 {
		want := api.ErrForm
		if long == 64 {
			want = api.OK
		}
		if e := x.write(1, strings.Repeat("x", long)); e != want {
			t.Fatalf("%d bytes: error %d; want %d", long, e, want)
		}
	}
}

// TestSync: what waited lies, whatever a crash picks.
func TestSync(t *testing.T) {
	for _, picks := range [][]int{nil, {0}, {3}, {64}, {5, 6, 7, 8}} {
		x := newPair(t, 3)
		x.sync()
		x.write(0, all('a'))
		x.write(2, all('b'))
		x.write(0, all('c'))
		x.sync()
		waits(t, x.d, 0)
		x.crash(picks...)
		isRead(t, x.d, 0, all('c'), api.OK)
		isRead(t, x.d, 1, all(0), api.OK)
		isRead(t, x.d, 2, all('b'), api.OK)
		x.sync()
		x.sync()
		x.write(1, all('d'))
		x.crash(picks...)
	}
}

// Promise 15.2.

func TestExample(t *testing.T) {
	x := newPair(t, 1)
	x.write(0, all('a'))
	x.sync()
	x.write(0, all('b'))
	x.crash(3)
	isRead(t, x.d, 0, "bbb"+strings.Repeat("a", 61), api.OK)
}

// somePicks is picks, and how many bytes each says, reckoned by hand: 64 is one less than 65, so 2^12 is 1 modulo 65.
func somePicks() map[int]int {
	return map[int]int{
		0: 0, 1: 1, 2: 2, 3: 3, 31: 31, 32: 32, 63: 63, 64: 64, 65: 0, 66: 1, 67: 2, 127: 62, 128: 63, 129: 64, 130: 0, 131: 1, 194: 64, 195: 0, 196: 1,
		255: 60, 256: 61, 1 << 12: 1, 1<<12 - 1: 0, 1<<12 - 2: 64, 1 << 16: 16, 1 << 20: 61, 1<<31 - 1: 62, 1 << 31: 63, 1<<32 - 1: 60, 1 << 32: 61, 1<<32 + 3: 64, 1<<32 + 4: 0,
		1 << 62: 4, math.MaxInt: 7, math.MaxInt - 7: 0, math.MaxInt - 8: 64,
	}
}

// picksBelow is picks below 0: modulo 65 they are numbers from 0 to 64 as well.
func picksBelow() map[int]int {
	return map[int]int{-1: 64, -2: 63, -63: 2, -64: 1, -65: 0, -66: 64, -129: 1, -130: 0, -131: 64, -1 << 12: 64, -1 << 32: 4, -math.MaxInt: 58, math.MinInt: 57}
}

func TestPicks(t *testing.T) {
	for _, picks := range []map[int]int{somePicks(), picksBelow()} {
		for pick, want := range picks {
			x := newPair(t, 2)
			x.write(1, all('a'))
			x.sync()
			x.write(1, all('b'))
			x.crash(pick)
			if s, _ := x.d.Read(1); s != torn(want, 'b', 'a') {
				t.Errorf("the pick %d: %q; want %d bytes", pick, s, want)
			}
		}
	}
}

// TestEachPick: all of three rounds, each on a sector of its own, and together.
func TestEachPick(t *testing.T) {
	x := newPair(t, 195)
	var picks []int
	for i := range 195 {
		x.write(i, all('a'))
	}
	x.sync()
	for i := range 195 {
		x.write(i, all('b'))
		picks = append(picks, i)
	}
	x.crash(picks...)
	for i := range 195 {
		isRead(t, x.d, i, torn(i%65, 'b', 'a'), api.OK)
	}
}

// TestMissingPicks: fewer than writes that wait, none, as many, and more.
func TestMissingPicks(t *testing.T) {
	picks := []int{64, 1, 63, 7, 64, 64, 64, 64, 64}
	for many := range len(picks) + 1 {
		x := newPair(t, 6)
		for i := range 6 {
			x.write(i, all('a'))
		}
		x.sync()
		for i := range 5 {
			x.write(i, all('b'))
		}
		x.crash(picks[:many]...)
		for i := range 5 {
			want := all('a')
			if i < many {
				want = torn(picks[i], 'b', 'a')
			}
			isRead(t, x.d, i, want, api.OK)
		}
		isRead(t, x.d, 5, all('a'), api.OK)
		waits(t, x.d, 0)
		isCrash(t, x.d, 64, 64, 64, 64, 64, 64, 64)
		x.looks()
	}
}

// TestPicksOfOneSector: each byte is that of the last write of which it was picked.
func TestPicksOfOneSector(t *testing.T) {
	values := []int{0, 1, 3, 40, 63, 64, 65, 66}
	for n := range 8 * 8 * 8 * 8 {
		picks := []int{values[n%8], values[n/8%8], values[n/64%8], values[n/512]}
		x := newPair(t, 1)
		x.write(0, all('0'))
		x.sync()
		want := []byte(all('0'))
		for k, pick := range picks {
			x.write(0, all(byte('1'+k)))
			for i := range pick % 65 {
				want[i] = byte('1' + k)
			}
		}
		x.crash(picks...)
		isRead(t, x.d, 0, string(want), api.OK)
	}
}

// TestPicksStandByWrites: a pick is that of a write's number among all that wait, whatever its sector, and not among those that were synced or refused.
func TestPicksStandByWrites(t *testing.T) {
	x := newPair(t, 3)
	x.write(0, all('a'))
	x.write(1, all('b'))
	x.write(2, all('c'))
	x.sync()
	x.write(0, all('d'))
	x.write(3, all('x'))
	x.write(2, all('e'))
	x.write(0, "x")
	x.write(0, all('f'))
	x.write(1, all('g'))
	x.write(2, all('h'))
	x.write(0, all('i'))
	x.crash(60, 50, 40, 30, 0, 10)
	isRead(t, x.d, 0, all('i')[:10]+all('f')[:30]+all('d')[:20]+all('a')[:4], api.OK)
	isRead(t, x.d, 1, torn(30, 'g', 'b'), api.OK)
	isRead(t, x.d, 2, torn(50, 'e', 'c'), api.OK)
	x.write(2, all('j'))
	x.write(0, all('k'))
	x.crash(2, 1)
	isRead(t, x.d, 0, "k"+all('i')[:9]+all('f')[:30]+all('d')[:20]+all('a')[:4], api.OK)
	isRead(t, x.d, 2, "jj"+all('e')[:48]+all('c')[:14], api.OK)
}

// TestWaits: it counts writes, not sectors.
func TestWaits(t *testing.T) {
	d := open(t, 2)
	for n := range 5000 {
		waits(t, d, n)
		isWrite(t, d, n%2, all(byte(n)), api.OK)
		isRead(t, d, n%2, all(byte(n)), api.OK)
	}
	isWrite(t, d, 2, all('x'), api.ErrRange)
	isWrite(t, d, 0, "x", api.ErrForm)
	waits(t, d, 5000)
	picks := make([]int, 4900)
	picks[4001], picks[4801], picks[4899] = 64, 20, 10
	isCrash(t, d, picks...)
	isRead(t, d, 0, all(0), api.OK)
	isRead(t, d, 1, all(byte(4899 % 256))[:10]+all(byte(4801 % 256))[:10]+all(byte(4001 % 256))[:44], api.OK)
	waits(t, d, 0)
}

// TestFuse: the n-th write or sync is not done, whichever of the calls ahead were writes, and what is asked, or refused, between.
func TestFuse(t *testing.T) {
	for n := 1; n <= 6; n++ {
		for pattern := range 1 << n {
			x := newPair(t, 2)
			x.write(0, all('a'))
			x.sync()
			x.fuse(n)
			for k := range n {
				x.write(2, all('w'))
				x.write(-1, "w")
				x.write(1, "w")
				x.fuse(-1)
				want := api.OK
				if k == n-1 {
					want = api.ErrDown
				}
				var e api.Errno
				if pattern>>k&1 == 0 {
					e = x.write(k%2, all(byte('b'+k)))
				} else {
					e = x.sync()
				}
				if e != want {
					t.Fatalf("the call %d of a fuse of %d: error %d; want %d", k+1, n, e, want)
				}
			}
			x.crash(64, 63, 62, 61, 60, 59)
			for range 2 * n {
				x.write(1, all('z'))
				x.sync()
			}
		}
	}
}

func TestLongestFuse(t *testing.T) {
	for _, n := range []int{fuseMost, fuseMost - 1} {
		d := open(t, 1)
		isFuse(t, d, n, api.OK)
		for k := range n - 1 {
			if k%100 == 99 {
				isSync(t, d, api.OK)
			} else {
				isWrite(t, d, 0, all(byte(k)), api.OK)
			}
		}
		want := d.Waits()
		isSync(t, d, api.ErrDown)
		waits(t, d, want)
		isCrash(t, d)
		isSync(t, d, api.OK)
	}
}

// TestNoFuse: without one, a disk never goes down; nor where one was taken away.
func TestNoFuse(t *testing.T) {
	for _, was := range []int{0, 1, 2, 10, fuseMost} {
		d := open(t, 1)
		isFuse(t, d, was, api.OK)
		if was > 2 {
			isWrite(t, d, 0, all('a'), api.OK)
			isSync(t, d, api.OK)
		}
		isFuse(t, d, 0, api.OK)
		for range 500 {
			isWrite(t, d, 0, all('b'), api.OK)
			isSync(t, d, api.OK)
		}
		isFuse(t, d, 0, api.OK)
		isFuse(t, d, 1, api.OK)
		isSync(t, d, api.ErrDown)
	}
}

// TestFuseAnew: a fuse that is set while one burns is counted from then on, be it shorter or longer.
func TestFuseAnew(t *testing.T) {
	for first := 1; first <= 8; first++ {
		for burnt := range first {
			for second := 1; second <= 8; second++ {
				x := newPair(t, 1)
				x.fuse(first)
				for range burnt {
					x.write(0, all('a'))
				}
				x.fuse(second)
				for k := range second - 1 {
					if e := x.write(0, all(byte(k))); e != api.OK {
						t.Fatalf("a fuse of %d, then of %d: error %d at %d", first, second, e, k)
					}
				}
				if e := x.write(0, all('z')); e != api.ErrDown {
					t.Fatalf("a fuse of %d, then of %d: error %d", first, second, e)
				}
			}
		}
	}
}

func TestFuseRefuses(t *testing.T) {
	for _, wrong := range wrongFuses() {
		d := open(t, 1)
		isFuse(t, d, wrong, api.ErrRange)
		for range 5 {
			isWrite(t, d, 0, all('a'), api.OK)
		}
		isFuse(t, d, 3, api.OK)
		isFuse(t, d, wrong, api.ErrRange)
		isSync(t, d, api.OK)
		isFuse(t, d, wrong, api.ErrRange)
		isSync(t, d, api.OK)
		isFuse(t, d, wrong, api.ErrRange)
		isSync(t, d, api.ErrDown)
		isFuse(t, d, wrong, api.ErrDown)
	}
}

// TestDown: each call that can tell an error tells that the disk is down, ahead of all that is wrong besides, again and again, until a crash; size and waiting writes are told on.
func TestDown(t *testing.T) {
	for _, bySync := range []bool{false, true} {
		d := takeDown(t, 3, bySync)
		for range 3 {
			for _, sector := range append(wrongSectors(3), 0, 1, 2) {
				isRead(t, d, sector, "", api.ErrDown)
				for _, text := range append(wrongTexts(), all('w')) {
					isWrite(t, d, sector, text, api.ErrDown)
				}
			}
			for _, n := range append(wrongFuses(), 0, 1, 2, fuseMost) {
				isFuse(t, d, n, api.ErrDown)
			}
			isSync(t, d, api.ErrDown)
			waits(t, d, 3)
			if d.Size() != 3 {
				t.Fatalf("Size: %d", d.Size())
			}
		}
		isCrash(t, d, 64, 1)
		isRead(t, d, 0, all('b'), api.OK)
		isRead(t, d, 1, torn(1, 'b', 'a'), api.OK)
		isRead(t, d, 2, all('a'), api.OK)
		for range 10 {
			isWrite(t, d, 0, all('d'), api.OK)
			isSync(t, d, api.OK)
		}
	}
}

// TestWaitsThroughTheFuse: a write at which the fuse is through is not among those that wait, and a sync lays none down; all of the others a crash can lay down.
func TestWaitsThroughTheFuse(t *testing.T) {
	for _, bySync := range []bool{false, true} {
		for p := range 65 {
			d := takeDown(t, 4, bySync)
			waits(t, d, 4)
			isCrash(t, d, p, 0, 64, p+65, 64, 64)
			isRead(t, d, 0, torn(p, 'b', 'a'), api.OK)
			isRead(t, d, 1, all('a'), api.OK)
			isRead(t, d, 2, all('b'), api.OK)
			isRead(t, d, 3, torn(p, 'b', 'a'), api.OK)
			waits(t, d, 0)
		}
	}
	d := open(t, 1)
	isFuse(t, d, 1, api.OK)
	isWrite(t, d, 0, all('a'), api.ErrDown)
	waits(t, d, 0)
	isCrash(t, d, 64, 64)
	isRead(t, d, 0, all(0), api.OK)
}

// TestCrash: while the disk is up and while it is down, with nothing that waits, and behind a crash: it is up then, without a fuse.
func TestCrash(t *testing.T) {
	for _, picks := range [][]int{nil, {0}, {64}, {1, 2, 3}} {
		x := newPair(t, 2)
		x.crash(picks...)
		x.crash(picks...)
		x.write(0, all('a'))
		x.sync()
		x.crash(picks...)
		isRead(t, x.d, 0, all('a'), api.OK)
		x.write(0, all('b'))
		x.crash(5)
		isRead(t, x.d, 0, torn(5, 'b', 'a'), api.OK)
		x.crash(picks...)
		isRead(t, x.d, 0, torn(5, 'b', 'a'), api.OK)
		x.fuse(1)
		x.sync()
		x.crash(picks...)
		isRead(t, x.d, 0, torn(5, 'b', 'a'), api.OK)
		x.fuse(2)
		x.write(1, all('c'))
		x.write(1, all('d'))
		x.crash(picks...)
		x.crash(picks...)
		for range 3 {
			x.write(1, all('e'))
			x.sync()
		}
	}
}

// TestCrashTakesTheFuse, one that was not begun, and one of which a part burnt.
func TestCrashTakesTheFuse(t *testing.T) {
	for n := 1; n <= 10; n++ {
		for burnt := range n {
			d := open(t, 1)
			isFuse(t, d, n, api.OK)
			for range burnt {
				isSync(t, d, api.OK)
			}
			isCrash(t, d)
			for range 25 {
				isWrite(t, d, 0, all('a'), api.OK)
				isSync(t, d, api.OK)
			}
			isFuse(t, d, 2, api.OK)
			isSync(t, d, api.OK)
			isSync(t, d, api.ErrDown)
		}
	}
}

// Promise 15.3.

// TestSyncedLasts: of a disk of drawn bytes that were synced, some sectors are written once, some several times; each length of a beginning is picked.
func TestSyncedLasts(t *testing.T) {
	for long := range 65 {
		by := rand.New(rand.NewSource(int64(long)))
		const sectors = 40
		d := open(t, sectors)
		var old []string
		for i := range sectors {
			old = append(old, drawnText(by, sectorLong))
			isWrite(t, d, i, drawnText(by, sectorLong), api.OK)
			isWrite(t, d, i, old[i], api.OK)
		}
		isSync(t, d, api.OK)
		many := make([]int, sectors)
		once := make([]string, sectors)
		var order []int
		for range 45 {
			i := by.Intn(sectors)
			many[i]++
			order = append(order, i)
			once[i] = drawnText(by, sectorLong)
			isWrite(t, d, i, once[i], api.OK)
		}
		var picks []int
		picked := make([]int, sectors)
		for k, i := range order {
			picks = append(picks, long+65*by.Intn(1000))
			if k%3 == 0 {
				picks[k] = by.Intn(math.MaxInt)
			}
			picked[i] = picks[k] % 65
		}
		if long%2 == 1 {
			isFuse(t, d, 1, api.OK)
			isSync(t, d, api.ErrDown)
		}
		isCrash(t, d, picks...)
		for i := range sectors {
			switch many[i] {
			case 0:
				isRead(t, d, i, old[i], api.OK)
			case 1:
				isRead(t, d, i, once[i][:picked[i]]+old[i][picked[i]:], api.OK)
			}
		}
	}
}

// TestTornLies: what a crash laid down is as good as synced: the next crash keeps it.
func TestTornLies(t *testing.T) {
	for p := range 65 {
		for _, q := range []int{0, 1, 20, 63, 64} {
			x := newPair(t, 2)
			x.write(0, all('a'))
			x.sync()
			x.write(0, all('b'))
			x.crash(p)
			x.crash(64)
			isRead(t, x.d, 0, torn(p, 'b', 'a'), api.OK)
			x.write(0, all('c'))
			x.crash(q)
			isRead(t, x.d, 0, all('c')[:q]+torn(p, 'b', 'a')[q:], api.OK)
		}
	}
}

// Mixtures.

// drawnPick is mostly one within two rounds, now and then at an edge, or any number.
func drawnPick(by *rand.Rand) int {
	switch by.Intn(5) {
	case 0:
		return []int{0, 1, 63, 64, 65, 66, math.MaxInt, math.MinInt, -1}[by.Intn(9)]
	case 1:
		return int(by.Uint64())
	}
	return by.Intn(130)
}

func drawnPicks(by *rand.Rand, waits int) []int {
	l := make([]int, by.Intn(waits+3))
	for i := range l {
		l[i] = drawnPick(by)
	}
	return l
}

// plays one drawn call, of which some may not be.
func (x *pair) plays(by *rand.Rand) (call string, e api.Errno) {
	x.t.Helper()
	size := x.d.Size()
	few := min(size, 3)
	switch k := by.Intn(40); {
	case k < 16:
		return "write", x.write(by.Intn(few)*(size-1)/max(few-1, 1), drawnText(by, sectorLong))
	case k < 22:
		return "write", x.write(by.Intn(size), drawnText(by, sectorLong))
	case k < 24:
		l := wrongSectors(size)
		return "write", x.write(l[by.Intn(len(l))], drawnText(by, sectorLong-by.Intn(2)))
	case k < 26:
		l := wrongTexts()
		return "write", x.write(by.Intn(size), l[by.Intn(len(l))])
	case k < 30:
		return "sync", x.sync()
	case k < 34:
		return "fuse", x.fuse(by.Intn(1 + by.Intn(40)))
	case k < 35:
		l := wrongFuses()
		return "fuse", x.fuse(l[by.Intn(len(l))])
	case k < 36 && by.Intn(3) > 0:
		return "fuse", x.fuse(fuseMost - by.Intn(2))
	}
	return "crash", x.crash(drawnPicks(by, x.d.Waits())...)
}

func TestAsPlain(t *testing.T) {
	told := map[string]map[api.Errno]int{"write": {}, "sync": {}, "fuse": {}, "crash": {}}
	for seed := range int64(120) {
		by := rand.New(rand.NewSource(seed))
		sizes := []int{1, 2, 3, 4, 5, 10, 33, 64, 65, 1023, 1024}
		x := newPair(t, sizes[int(seed)%len(sizes)])
		for range 200 {
			call, e := x.plays(by)
			told[call][e]++
		}
	}
	for call, want := range map[string][]api.Errno{"write": {api.OK, api.ErrRange, api.ErrForm, api.ErrDown}, "sync": {api.OK, api.ErrDown}, "fuse": {api.OK, api.ErrRange, api.ErrDown}, "crash": {api.OK}} {
		for _, e := range want {
			if told[call][e] < 50 {
				t.Errorf("%s told the error %d %d times: too few", call, e, told[call][e])
			}
		}
		if len(told[call]) != len(want) {
			t.Errorf("%s told %v", call, told[call])
		}
	}
}

// TestShortPlays: all plays of five calls of these.
func TestShortPlays(t *testing.T) {
	a, b, c := drawnText(rand.New(rand.NewSource(1)), sectorLong), all('b'), all('c')
	calls := []func(x *pair){
		func(x *pair) { x.write(0, a) },
		func(x *pair) { x.write(0, b) },
		func(x *pair) { x.write(1, c) },
		func(x *pair) { x.write(2, c) },
		func(x *pair) { x.write(0, c[1:]) },
		func(x *pair) { x.sync() },
		func(x *pair) { x.fuse(1) },
		func(x *pair) { x.fuse(2) },
		func(x *pair) { x.fuse(0) },
		func(x *pair) { x.crash() },
		func(x *pair) { x.crash(3, 66, 40) },
	}
	many := 1
	for range 5 {
		many *= len(calls)
	}
	for play := range many {
		x := newPair(t, 2)
		for n, k := play, 0; k < 5; n, k = n/len(calls), k+1 {
			calls[n%len(calls)](x)
		}
	}
}

// Rules that hold everywhere.

// TestRefusedCallsChangeNothing plays the same calls with two disks, one of them with refused ones between.
func TestRefusedCallsChangeNothing(t *testing.T) {
	for seed := range int64(60) {
		by := rand.New(rand.NewSource(seed))
		size := 1 + by.Intn(5)
		quiet, x := newPair(t, size), newPair(t, size)
		for range 60 {
			wrong := func(e api.Errno) api.Errno {
				if x.p.down {
					return api.ErrDown
				}
				return e
			}
			for _, sector := range []int{-1, size, math.MinInt, math.MaxInt} {
				isRead(t, x.d, sector, "", wrong(api.ErrRange))
				isWrite(t, x.d, sector, all('w'), wrong(api.ErrRange))
			}
			for _, text := range wrongTexts() {
				isWrite(t, x.d, by.Intn(size), text, wrong(api.ErrForm))
			}
			for _, n := range wrongFuses() {
				isFuse(t, x.d, n, wrong(api.ErrRange))
			}
			if x.p.down {
				isSync(t, x.d, api.ErrDown)
				isWrite(t, x.d, 0, all('w'), api.ErrDown)
				isFuse(t, x.d, 1, api.ErrDown)
			}
			x.looks()
			play := by.Int63()
			quiet.plays(rand.New(rand.NewSource(play)))
			x.plays(rand.New(rand.NewSource(play)))
		}
	}
}

// TestReadsChangeNothing: neither the fuse nor what waits.
func TestReadsChangeNothing(t *testing.T) {
	d := open(t, 2)
	isFuse(t, d, 3, api.OK)
	for range 20 {
		isRead(t, d, 0, all(0), api.OK)
		d.Size()
		waits(t, d, 0)
	}
	isWrite(t, d, 0, all('a'), api.OK)
	for range 20 {
		isRead(t, d, 0, all('a'), api.OK)
		isRead(t, d, 2, "", api.ErrRange)
		waits(t, d, 1)
	}
	isWrite(t, d, 1, all('b'), api.OK)
	for range 20 {
		isRead(t, d, 1, all('b'), api.OK)
		waits(t, d, 2)
	}
	isSync(t, d, api.ErrDown)
}

// TestPicksAreNotChanged, nor read or written behind their length, nor kept.
func TestPicksAreNotChanged(t *testing.T) {
	room := []int{100, -3, 64, 65, math.MaxInt, 64, 64, 64}
	was := slices.Clone(room)
	for many := range len(room) + 1 {
		d := open(t, 8)
		for range 2 {
			for i := range 8 {
				isWrite(t, d, i, all('a'), api.OK)
			}
			isSync(t, d, api.OK)
			for i := range 8 {
				isWrite(t, d, i, all('b'), api.OK)
			}
			isCrash(t, d, room[:many]...)
			if !slices.Equal(room, was) {
				t.Fatalf("the picks are %v; they were %v", room, was)
			}
			for i := range 8 {
				want := 0
				if i < many {
					want = modulo65(was[i])
				}
				isRead(t, d, i, torn(want, 'b', 'a'), api.OK)
			}
		}
	}
}

// TestNothingIsShared: texts are written over once they were handed in or answered, as no program of the language could; the disk has them still.
func TestNothingIsShared(t *testing.T) {
	spoil := func(s string) {
		b := unsafe.Slice(unsafe.StringData(s), len(s))
		for i := range b {
			b[i] = '?'
		}
	}
	x := newPair(t, 2)
	for k := range 20 {
		text := strings.Clone(all(byte('a' + k)))
		x.p.Write(k%2, strings.Clone(text))
		isWrite(t, x.d, k%2, text, api.OK)
		spoil(text)
		x.looks()
		first, _ := x.d.Read(k % 2)
		second, _ := x.d.Read(k % 2)
		spoil(first)
		if second != x.p.shows()[k%2] {
			t.Fatalf("another answer became %q", second)
		}
		x.looks()
		switch k % 5 {
		case 2:
			x.sync()
		case 4:
			x.crash(60, 10)
		}
	}
}

// TestDisksDoNotKnowOfOneAnother: neither of sectors nor of fuses nor of crashes.
func TestDisksDoNotKnowOfOneAnother(t *testing.T) {
	a, b := open(t, 2), open(t, 3)
	isWrite(t, a, 0, all('a'), api.OK)
	isRead(t, b, 0, all(0), api.OK)
	waits(t, b, 0)
	isFuse(t, a, 1, api.OK)
	isSync(t, b, api.OK)
	isSync(t, a, api.ErrDown)
	isRead(t, b, 0, all(0), api.OK)
	isWrite(t, b, 0, all('b'), api.OK)
	isCrash(t, b, 7)
	isRead(t, a, 0, "", api.ErrDown)
	waits(t, a, 1)
	isCrash(t, a, 3)
	isRead(t, a, 0, torn(3, 'a', 0), api.OK)
	isRead(t, b, 0, torn(7, 'b', 0), api.OK)
	isRead(t, open(t, 2), 0, all(0), api.OK)
	by := rand.New(rand.NewSource(15))
	l := []*pair{newPair(t, 1), newPair(t, 3), newPair(t, 3)}
	for range 3000 {
		l[by.Intn(len(l))].plays(by)
		for _, other := range l {
			other.looks()
		}
	}
}

// TestSameCallsTellTheSame, again and again, and at the same time.
func TestSameCallsTellTheSame(t *testing.T) {
	play := func() string {
		by := rand.New(rand.NewSource(4))
		d, _ := disk.New(4)
		var said strings.Builder
		for range 2000 {
			switch by.Intn(8) {
			case 0:
				fmt.Fprintln(&said, d.Sync())
			case 1:
				fmt.Fprintln(&said, d.Fuse(by.Intn(30)-1))
			case 2:
				fmt.Fprintln(&said, d.Crash(drawnPicks(by, d.Waits())...))
			default:
				fmt.Fprintln(&said, d.Write(by.Intn(5), drawnText(by, sectorLong)))
			}
			for i := range 4 {
				s, e := d.Read(i)
				fmt.Fprintf(&said, "%x %d\n", s, e)
			}
			fmt.Fprintln(&said, d.Waits())
		}
		return said.String()
	}
	want := play()
	var everyone sync.WaitGroup
	said := make([]string, 8)
	for k := range said {
		everyone.Go(func() { said[k] = play() })
	}
	everyone.Wait()
	for _, s := range said {
		if s != want {
			t.Fatal("another answer")
		}
	}
}
