package log_test

import (
	"fmt"
	"math/rand"
	"slices"
	"strings"
	"sync"
	"testing"
	"unsafe"

	"dovecote/api"
	"dovecote/disk"
	"dovecote/log"
)

// long is a text of n bytes.
func long(n int) string { return strings.Repeat("x", n) }

// drawnText is bytes of any kind, now and then with bytes 0 at its end.
func drawnText(by *rand.Rand, long int) string {
	b := make([]byte, long)
	for i := range b {
		b[i] = byte(by.Intn(256))
	}
	if by.Intn(4) == 0 && long > 0 {
		clear(b[by.Intn(long):])
	}
	return string(b)
}

// zeroSectors is so many of bytes 0.
func zeroSectors(many int) []string { return slices.Repeat([]string{all(0)}, many) }

// read is all sectors of a disk that is up.
func read(t *testing.T, d *disk.Disk) (l []string) {
	t.Helper()
	for i := range d.Size() {
		s, e := d.Read(i)
		is(t, e, api.OK)
		l = append(l, s)
	}
	return l
}

// trace is what a call writes and syncs, found by fuses: w and a sector's number, or s, for each fuse up to the one that is not through. The disks that prepare makes are alike.
func trace(t *testing.T, prepare func() *disk.Disk, call func(d *disk.Disk) api.Errno) []string {
	t.Helper()
	var does []string
	before := read(t, prepare())
	waited := prepare().Waits()
	for n := 2; ; n++ {
		d := prepare()
		is(t, d.Fuse(n), api.OK)
		e := call(d)
		done := e == api.OK
		if !done {
			is(t, e, api.ErrDown)
		}
		waits := d.Waits()
		is(t, d.Crash(slices.Repeat([]int{64}, waits)...), api.OK)
		now := read(t, d)
		switch {
		case waits == waited+1:
			does = append(does, "w"+changed(before, now))
		case waits == 0 && slices.Equal(before, now):
			does = append(does, "s")
		default:
			t.Fatalf("behind %v: %d writes wait, there were %d", does, waits, waited)
		}
		if done {
			return does
		}
		before, waited = now, waits
	}
}

// changed is the numbers of sectors that are not the same.
func changed(before, now []string) (s string) {
	for i := range now {
		if before[i] != now[i] {
			s += fmt.Sprint(i)
		}
	}
	return s
}

// quiet fails unless a call neither writes nor syncs: a fuse of 1 is not through.
func quiet(t *testing.T, d *disk.Disk, call func(d *disk.Disk)) {
	t.Helper()
	waits, was := d.Waits(), read(t, d)
	is(t, d.Fuse(1), api.OK)
	call(d)
	if d.Waits() != waits || !slices.Equal(read(t, d), was) {
		t.Fatal("the disk was written")
	}
	is(t, d.Sync(), api.ErrDown)
	is(t, d.Crash(slices.Repeat([]int{64}, waits)...), api.OK)
}

// eachFuse plays a call with fuses of 1, 2, 3 and on until it goes through, each time held against the plain one, behind it a crash, and a log that is opened.
func eachFuse(t *testing.T, prepare func() *pair, call func(x *pair) api.Errno) int {
	t.Helper()
	for n := 1; ; n++ {
		e := api.OK
		for _, picks := range [][]int{nil, slices.Repeat([]int{64}, 600), {64, 64, 64}, {3, 64, 0, 19, 64, 64, 1}, slices.Repeat([]int{63, 64}, 300)} {
			x := prepare()
			x.fuse(n)
			e = call(x)
			if e != api.OK {
				is(t, e, api.ErrDown)
			}
			x.crash(picks...)
			is(t, x.open(), api.OK)
		}
		if e == api.OK {
			return n - 1
		}
	}
}

// Promise 16.1.

func TestExample(t *testing.T) {
	x := opened(t, 20)
	is(t, x.append("a"), api.OK)
	is(t, x.sync(), api.OK)
	is(t, x.append("b"), api.OK)
	x.crash()
	is(t, x.open(), api.OK)
	tells(t, x.l, 1, 8, "a")
}

func TestOpenOfANewDisk(t *testing.T) {
	for _, sectors := range []int{4, 5, 6, 7, 8, 9, 20, 63, 64, 65, 100, 127, 128, 511, 512, 1000, 1023, 1024} {
		x := opened(t, sectors)
		tells(t, x.l, 1, sectors/2-1)
		if !slices.Equal(read(t, x.d), append(laid(1), zeroSectors(sectors-1)...)) || x.d.Waits() != 0 {
			t.Fatalf("%d sectors: not a head of the generation 1 alone", sectors)
		}
		x.crash()
		is(t, x.open(), api.OK)
		tells(t, x.l, 1, sectors/2-1)
	}
}

// TestBytesByHand: a head and two records whose marks were reckoned by sha256sum.
func TestBytesByHand(t *testing.T) {
	d := newDisk(t, 10)
	l, e := log.Open(d)
	is(t, e, api.OK)
	is(t, l.Append("a"), api.OK)
	is(t, l.Append("bc"), api.OK)
	for i, want := range []string{
		"4c4f470000000001" + "94977d9c7d595a68700222c6e1130f41",
		"0001" + "11e4424be0fa74dabf9d87d0e4bf34ba" + "61",
		"0002" + "75583e78137c5d35e423f8b29526f62f" + "6263",
	} {
		if s, _ := d.Read(i); fmt.Sprintf("%x", s) != want+strings.Repeat("0", 128-len(want)) {
			t.Errorf("the sector %d: %x", i, s)
		}
	}
}

func TestOpenRefuses(t *testing.T) {
	refuses := func(d *disk.Disk, want api.Errno) {
		t.Helper()
		if l, e := log.Open(d); l != nil || e != want {
			t.Fatalf("Open: a log %t, error %d; want %d", l != nil, e, want)
		}
	}
	refuses(nil, api.ErrNone)
	for _, sectors := range []int{1, 2, 3} {
		d := newDisk(t, sectors)
		quiet(t, d, func(d *disk.Disk) { refuses(d, api.ErrShape) })
		d.Fuse(1)
		d.Sync()
		refuses(d, api.ErrShape)
	}
	for _, sectors := range []int{4, 5, 20, 1024} {
		d := newDisk(t, sectors)
		d.Fuse(1)
		is(t, d.Sync(), api.ErrDown)
		refuses(d, api.ErrDown)
		refuses(d, api.ErrDown)
		d.Crash()
		if l, e := log.Open(d); l == nil || e != api.OK {
			t.Fatalf("Open behind a crash: error %d", e)
		}
	}
}

// TestOpenInOrder: what is written and synced, with heads that are right, or not, and with all kinds of things behind them.
func TestOpenInOrder(t *testing.T) {
	a, b := laid(4, "a", "b"), laid(5, "c")
	for _, x := range []struct {
		name  string
		first []string // from the sector 0 on, of 12: H is 6
		other []string // from the sector 6 on
		want  string
	}{
		{"nothing", nil, nil, "s w0 s"},
		{"no head, some", []string{all('a'), all(0), all('b'), all('c'), all(0), all('d')}, b[1:], "w0 w2 w3 w5 s s w0 s"},
		{"no head, last one alone", append(zeroSectors(5), all(1)), append([]string{all('x')}, b...), "w5 s s w0 s"},
		{"first half, clean", a, nil, ""},
		{"first half, some", append(slices.Clone(a), all(0), all('x')), []string{all('y'), all('z')}, "w4 s"},
		{"first half, all behind", append(slices.Clone(a), all('w'), all('x'), all('v')), b[1:], "w3 w4 w5 s"},
		{"other half, clean", a, b, ""},
		{"other half, some", append(slices.Clone(a), all('u')), append(slices.Clone(b), all(0), all('x'), all('y'), all(0)), "w9 w10 s"},
		{"other half, its last sector", nil, append(slices.Clone(b), all(0), all(0), all(0), all('y')), "w11 s"},
		{"other half, one bit", a, append(slices.Clone(b), all(0)[1:]+"\x80"), "w8 s"},
		{"other half, a first bit", a, append(slices.Clone(b), "\x01"+all(0)[1:]), "w8 s"},
	} {
		prepare := func() *pair {
			y := newPair(t, 12)
			y.lays(0, x.first...)
			y.lays(6, x.other...)
			return y
		}
		open := func(d *disk.Disk) api.Errno { _, e := log.Open(d); return e }
		if x.want == "" {
			quiet(t, prepare().d, func(d *disk.Disk) { is(t, open(d), api.OK) })
		} else if got := strings.Join(trace(t, func() *disk.Disk { return prepare().d }, open), " "); got != x.want {
			t.Errorf("%s: %s; want %s", x.name, got, x.want)
		}
		if n, want := eachFuse(t, prepare, (*pair).open), len(strings.Fields(x.want)); n != want {
			t.Errorf("%s: %d writes and syncs; want %d", x.name, n, want)
		}
	}
}

// TestOpenDoesNotSyncWhatWaits: nothing is to be cleaned, so that a crash may still take away what another log wrote.
func TestOpenDoesNotSyncWhatWaits(t *testing.T) {
	x := opened(t, 20)
	x.append("a")
	x.sync()
	x.append("b")
	is(t, x.open(), api.OK)
	tells(t, x.l, 1, 7, "a", "b")
	if x.d.Waits() != 1 {
		t.Fatalf("%d writes wait", x.d.Waits())
	}
	x.append("c")
	x.crash(64)
	is(t, x.open(), api.OK)
	tells(t, x.l, 1, 7, "a", "b")
	x.append("d")
	x.crash()
	is(t, x.open(), api.OK)
	tells(t, x.l, 1, 7, "a", "b")
}

// TestHeads: which half is in use.
func TestHeads(t *testing.T) {
	tail := func(n int) []string { // a head whose mark is right, but a byte behind it is not 0
		s := laid(n, "t")
		return []string{s[0][:40] + "\x01" + s[0][41:], s[1]}
	}
	for _, x := range []struct {
		name         string
		first, other []string
		generation   int
		text         string // "": none
	}{
		{"both, the first greater", laid(3, "a"), laid(2, "b"), 3, "a"},
		{"both, the other greater", laid(3, "a"), laid(4, "b"), 4, "b"},
		{"both, far from one another", laid(1, "a"), laid(1<<31-1, "b"), 1<<31 - 1, "b"},
		{"both, the highest byte decides", laid(1<<24, "a"), laid(1<<24-1, "b"), 1 << 24, "a"},
		{"both, the lowest byte is greater", laid(0x0100, "a"), laid(0xff, "b"), 0x100, "a"},
		{"both, as great", laid(7, "a"), laid(7, "b"), 7, "a"},
		{"the first alone", laid(9, "a"), nil, 9, "a"},
		{"the other alone", nil, laid(9, "b"), 9, "b"},
		{"the first alone, the other torn", laid(9, "a"), []string{laid(10)[0][:20] + all(0)[20:]}, 9, "a"},
		{"the other alone, the first has a byte behind", tail(10), laid(9, "b"), 9, "b"},
		{"the first alone, the other has a byte behind", laid(9, "a"), tail(10), 9, "a"},
		{"none, both have a byte behind", tail(3), tail(4), 1, ""},
		{"none, of the generation 0", laid(0, "a"), laid(0, "b"), 1, ""},
		{"the other, the first is of the generation 0", laid(0, "a"), laid(1, "b"), 1, "b"},
		{"none, records alone", append(zeroSectors(1), laid(1, "a")[1:]...), append(zeroSectors(1), laid(1, "a")[1:]...), 1, ""},
		{"none, bytes of all kinds", []string{all('a'), all('b')}, []string{all('c'), all('d')}, 1, ""},
		{"none, a head on another sector", append(zeroSectors(1), laid(5)...), append(zeroSectors(1), laid(5)...), 1, ""},
		{"a head without records", laid(6), nil, 6, ""},
	} {
		for _, sectors := range []int{10, 11} {
			y := newPair(t, sectors)
			y.lays(0, x.first...)
			y.lays(5, x.other...)
			is(t, y.open(), api.OK)
			if x.text == "" {
				tells(t, y.l, x.generation, 4)
			} else {
				tells(t, y.l, x.generation, 3, x.text)
			}
			if t.Failed() {
				t.Fatal(x.name)
			}
			is(t, y.append("more"), api.OK)
			is(t, y.compact("new"), behindLast(x.generation))
		}
	}
}

// behindLast is what a compaction that may be tells: behind the last generation there is none.
func behindLast(generation int) api.Errno {
	if generation == 1<<31-1 {
		return api.ErrLong
	}
	return api.OK
}

// TestEachByteOfAHead: with any byte changed, it is not right.
func TestEachByteOfAHead(t *testing.T) {
	for _, generation := range []int{1, 2, 258, 1<<31 - 2, 1<<31 - 1} {
		head := laid(generation)[0]
		for i := range sectorLong {
			for _, by := range []byte{1, 0x80, 0xff} {
				b := []byte(head)
				b[i] ^= by
				x := newPair(t, 8)
				x.lays(4, string(b))
				is(t, x.open(), api.OK)
				tells(t, x.l, 1, 3)
				if s, _ := x.d.Read(4); s != string(b) {
					t.Fatal("the half that is not in use was written")
				}
			}
		}
	}
}

// TestEachByteOfRecords: with any byte changed, the records end ahead of that one, and all behind is cleaned.
func TestEachByteOfRecords(t *testing.T) {
	texts := []string{"a", long(46), long(47), long(110), long(111), "\x00\x00\x00", "z"}
	half := laid(3, texts...)
	var ends []int // behind each text's last sector
	for i := range texts {
		ends = append(ends, len(laid(3, texts[:i+1]...)))
	}
	for at := sectorLong; at < len(half)*sectorLong; at++ {
		b := []byte(strings.Join(half, ""))
		b[at] ^= byte(1 + at%255)
		x := newPair(t, 30)
		x.lays(15, cut(string(b))...)
		is(t, x.open(), api.OK)
		right := 0
		for ends[right] <= at/sectorLong {
			right++
		}
		left := laid(3, texts[:right]...)
		tells(t, x.l, 3, 15-len(left), texts[:right]...)
		if now := read(t, x.d); !slices.Equal(now[15:], append(left, zeroSectors(15-len(left))...)) {
			t.Fatal("not clean behind the records")
		}
	}
}

// wrongRecords is sectors that are no right record behind texts of a half of the generation 3, with room for so many sectors.
func wrongRecords(room int, ahead ...string) map[string][]string {
	mark := digest("LOG\x00\x00\x00\x00\x03")
	first := mark
	for _, text := range ahead {
		_, mark = laidRecord(mark, text)
	}
	of := func(ahead string, length, tell int) []string { // a record of that length which tells another
		text := long(length)
		told := string([]byte{byte(tell >> 8), byte(tell)})
		return cut(told + digest(ahead, told, text) + text)
	}
	good := strings.Join(of(mark, 10, 10), "")
	return map[string][]string{
		"a length of 0, no text":         of(mark, 0, 0),
		"a length of 0, a text":          of(mark, 10, 0),
		"a length of 2001":               of(mark, 2001, 2001),
		"a length of 2002":               of(mark, 2002, 2002),
		"a length of 2001, less there":   of(mark, 20, 2001),
		"a length of 65535":              of(mark, 46, 65535),
		"a length past the end, by 1":    of(mark, room*64-18, room*64-17),
		"a length far past the end":      of(mark, 46, 1999),
		"a length that is too small":     of(mark, 10, 9),
		"a length that is too great":     of(mark, 10, 11),
		"another mark ahead":             of(digest("another"), 10, 10),
		"a mark ahead of bytes 0":        of(strings.Repeat("\x00", 16), 10, 10),
		"no mark ahead":                  of("", 10, 10),
		"the mark of another record":     {string([]byte{0, 10}) + mark + long(10) + all(0)[28:]},
		"the first mark, once more":      of(first+"x", 10, 10),
		"a byte behind the text":         {good[:28] + "\x01" + good[29:]},
		"the last byte behind the text":  {good[:63] + "\x01"},
		"another text":                   {good[:27] + "y" + good[28:]},
		"the bytes of the length turned": {"\x0a\x00" + good[2:]},
		"nothing":                        {all(0)},
		"all bytes 255":                  {all(255)},
	}
}

// TestWrongRecords: in halves with room for any length, and in such as a length may go past.
func TestWrongRecords(t *testing.T) {
	_, mark := laidRecord(digest("LOG\x00\x00\x00\x00\x03"), "a")
	after, _ := laidRecord(mark, "after")
	for _, half := range []int{12, 20, 40} {
		for _, ahead := range [][]string{nil, {"a"}, {"a", long(47), "b"}} {
			taken := len(laid(3, ahead...))
			room := half - taken
			for name, wrong := range wrongRecords(room, ahead...) {
				x := newPair(t, 2*half)
				lie := slices.Concat(laid(3, ahead...), wrong, after)
				x.lays(half, lie[:min(len(lie), half)]...)
				is(t, x.open(), api.OK)
				if !slices.Equal(x.l.Records(), ahead) || x.l.Room() != room {
					t.Fatalf("%s behind %d records: %q", name, len(ahead), x.l.Records())
				}
				if now := read(t, x.d)[half+taken:]; !slices.Equal(now, zeroSectors(room)) || x.d.Waits() != 0 {
					t.Fatalf("%s: not clean, or not synced", name)
				}
				is(t, x.append("b"), api.OK)
				is(t, x.sync(), api.OK)
				x.crash()
				is(t, x.open(), api.OK)
				if got := x.l.Records(); !slices.Equal(got, append(slices.Clone(ahead), "b")) {
					t.Fatalf("%s: %q", name, got)
				}
			}
		}
	}
}

// TestMarkOfARecordAhead: a record that is right behind another one is not right here.
func TestMarkOfARecordAhead(t *testing.T) {
	whole := laid(3, "a", "b", "c", "d")
	for name, x := range map[string]struct {
		half []string
		want []string
	}{
		"one is missing":           {[]string{whole[0], whole[1], whole[3], whole[4]}, []string{"a"}},
		"the first is missing":     {[]string{whole[0], whole[2], whole[3], whole[4]}, nil},
		"two are turned":           {[]string{whole[0], whole[1], whole[3], whole[2], whole[4]}, []string{"a"}},
		"one twice":                {[]string{whole[0], whole[1], whole[2], whole[2], whole[3]}, []string{"a", "b"}},
		"a gap":                    {[]string{whole[0], whole[1], all(0), whole[2], whole[3]}, []string{"a"}},
		"of another generation":    {[]string{whole[0], laid(2, "a")[1], laid(2, "a", "b")[2]}, nil},
		"goes on in another one":   {[]string{whole[0], whole[1], laid(2, "a", "b")[2]}, []string{"a"}},
		"behind the first, anew":   {[]string{whole[0], whole[1], laid(3, "b")[1]}, []string{"a"}},
		"all right":                {whole, []string{"a", "b", "c", "d"}},
		"of the same text, anew":   {[]string{whole[0], whole[1], laid(3, "a")[1]}, []string{"a"}},
		"of the same text, behind": {laid(3, "a", "a", "a"), []string{"a", "a", "a"}},
	} {
		for from, sectors := range map[int]int{0: 20, 10: 21} {
			y := newPair(t, sectors)
			y.lays(from, x.half...)
			is(t, y.open(), api.OK)
			if got := y.l.Records(); !slices.Equal(got, x.want) || y.l.Room() != 9-len(x.want) {
				t.Errorf("%s: %q; want %q", name, got, x.want)
			}
		}
	}
}

// TestRecordsUpToTheEnd: a half that is full, and one whose last record would go past its end though the disk goes on.
func TestRecordsUpToTheEnd(t *testing.T) {
	for _, from := range []int{0, 5} {
		x := newPair(t, 11)
		x.lays(from, laid(3, "a", long(46), long(47))...)
		is(t, x.open(), api.OK)
		tells(t, x.l, 3, 0, "a", long(46), long(47))
		is(t, x.append("b"), api.ErrSpace)
		y := newPair(t, 11)
		y.lays(from, laid(3, "a", "b", "c", long(47))...)
		is(t, y.open(), api.OK)
		tells(t, y.l, 3, 1, "a", "b", "c")
	}
}

// TestOddSector: the last one of a disk with an odd number is nobody's.
func TestOddSector(t *testing.T) {
	for _, sectors := range []int{5, 7, 21, 1023} {
		x := newPair(t, sectors)
		x.lays(sectors-1, all('o'))
		is(t, x.open(), api.OK)
		for range 3 {
			for x.append(long(20)) == api.OK {
			}
			x.sync()
			x.compact("a")
		}
		x.crash()
		is(t, x.open(), api.OK)
		if s, _ := x.d.Read(sectors - 1); s != all('o') {
			t.Fatalf("the sector %d was written", sectors-1)
		}
	}
}

// TestDrawnDisks: halves of right records with bytes changed, cut off, or behind them.
func TestDrawnDisks(t *testing.T) {
	some := map[bool]int{}
	for seed := range int64(3000) {
		by := rand.New(rand.NewSource(seed))
		sectors := 4 + by.Intn(30)
		x := newPair(t, sectors)
		for half := range 2 {
			var texts []string
			for range by.Intn(8) {
				texts = append(texts, drawnText(by, 1+by.Intn(150)))
			}
			lie := laid(by.Intn(4)+by.Intn(2)<<(8*by.Intn(4)), texts...)
			for range by.Intn(3) {
				b := []byte(lie[by.Intn(len(lie))])
				b[by.Intn(sectorLong)] = byte(by.Intn(3))
				lie[by.Intn(len(lie))] = string(b)
			}
			for range by.Intn(4) {
				lie = append(lie, []string{all(0), drawnText(by, sectorLong), lie[by.Intn(len(lie))]}[by.Intn(3)])
			}
			x.lays(half*(sectors/2), lie[:min(len(lie), sectors/2)]...)
		}
		if by.Intn(3) == 0 {
			x.fuse(1 + by.Intn(12))
		}
		if x.open() == api.OK {
			some[len(x.l.Records()) > 0]++
			x.append(drawnText(by, 1+by.Intn(100)))
		}
		x.crash(64, 64, 30)
		is(t, x.open(), api.OK)
	}
	if some[true] < 500 || some[false] < 500 {
		t.Errorf("logs with records and without: %v", some)
	}
}

// Promise 16.2.

// TestEachLength: texts of all lengths, those around the edges once more behind others.
func TestEachLength(t *testing.T) {
	for n := range textMost + 3 {
		d := newDisk(t, 80)
		l, _ := log.Open(d)
		text := drawnText(rand.New(rand.NewSource(int64(n))), n)
		e := l.Append(text)
		switch {
		case n == 0:
			is(t, e, api.ErrRange)
		case n > textMost:
			is(t, e, api.ErrLong)
		default:
			is(t, e, api.OK)
			want := laid(1, text)
			tells(t, l, 1, 40-len(want), text)
			if d.Waits() != len(want)-1 || !slices.Equal(read(t, d)[:len(want)], want) {
				t.Fatalf("%d bytes: not as they should lie", n)
			}
			again, e := log.Open(d)
			is(t, e, api.OK)
			tells(t, again, 1, 40-len(want), text)
		}
	}
}

// TestSectorsOfTexts: how many each takes, reckoned by hand.
func TestSectorsOfTexts(t *testing.T) {
	for n, want := range map[int]int{1: 1, 2: 1, 45: 1, 46: 1, 47: 2, 48: 2, 109: 2, 110: 2, 111: 3, 174: 3, 175: 4, 1966: 31, 1967: 32, 1999: 32, 2000: 32} {
		x := opened(t, 140)
		is(t, x.append(long(n)), api.OK)
		if got := 69 - x.l.Room(); got != want || x.d.Waits() != want {
			t.Errorf("%d bytes take %d sectors, %d writes wait; want %d", n, got, x.d.Waits(), want)
		}
		is(t, x.append("b"), api.OK)
		is(t, x.compact(long(n), long(n)), api.OK)
		if got := 69 - x.l.Room(); got != 2*want {
			t.Errorf("twice %d bytes take %d sectors; want %d", n, got, 2*want)
		}
	}
}

func TestAppendRefuses(t *testing.T) {
	for _, sectors := range []int{4, 5, 20, 80, 1024} {
		x := opened(t, sectors)
		x.append("a")
		x.sync()
		quiet(t, x.d, func(*disk.Disk) {
			is(t, x.l.Append(""), api.ErrRange)
			for _, n := range []int{2001, 2002, 4000, 65535, 65536, 65537, 1 << 17} {
				is(t, x.l.Append(long(n)), api.ErrLong)
			}
		})
		x.crash()
		x.open()
		for x.l.Room() > 0 { // full up to the last sector
			is(t, x.append(long(min(textMost, x.l.Room()*64-frontLong))), api.OK)
		}
		quiet(t, x.d, func(*disk.Disk) {
			is(t, x.l.Append("b"), api.ErrSpace)
			is(t, x.l.Append(long(2000)), api.ErrSpace)
			is(t, x.l.Append(long(2001)), api.ErrLong)
			is(t, x.l.Append(""), api.ErrRange)
			tells(t, x.l, 1, 0, x.m.texts...)
		})
	}
}

// TestJustRoom: texts that just find room, and such as take one byte, and so one sector, more.
func TestJustRoom(t *testing.T) {
	for room := 1; room <= 31; room++ {
		for fill := range 3 {
			x := opened(t, 2*(room+1+fill))
			for range fill {
				is(t, x.append("f"), api.OK)
			}
			is(t, x.append(long(room*64-frontLong+1)), api.ErrSpace)
			is(t, x.append(long(room*64-frontLong)), api.OK)
			is(t, x.append("f"), api.ErrSpace)
			x.crash(slices.Repeat([]int{64}, 40)...)
			x.open()
			if x.l.Room() != 0 || len(x.l.Records()) != fill+1 {
				t.Fatalf("%d sectors left; records %q", x.l.Room(), x.l.Records())
			}
		}
	}
	x := opened(t, 66)
	is(t, x.append(long(2000)), api.OK)
	tells(t, x.l, 1, 0, long(2000))
	y := opened(t, 64)
	is(t, y.append(long(2000)), api.ErrSpace)
	tells(t, y.l, 1, 31)
}

// TestSmallest: halves of two sectors.
func TestSmallest(t *testing.T) {
	for _, sectors := range []int{4, 5} {
		x := opened(t, sectors)
		is(t, x.append(long(47)), api.ErrSpace)
		is(t, x.append(long(46)), api.OK)
		is(t, x.append("a"), api.ErrSpace)
		is(t, x.compact("a", "b"), api.ErrSpace)
		is(t, x.compact(long(47)), api.ErrSpace)
		is(t, x.compact(long(46)), api.OK)
		tells(t, x.l, 2, 0, long(46))
		is(t, x.compact(), api.OK)
		tells(t, x.l, 3, 1)
		is(t, x.append("a"), api.OK)
		is(t, x.sync(), api.OK)
		x.crash()
		is(t, x.open(), api.OK)
		tells(t, x.l, 3, 0, "a")
	}
}

// TestAppendInOrder: sector by sector, and no sync.
func TestAppendInOrder(t *testing.T) {
	text := drawnText(rand.New(rand.NewSource(2)), 46+4*64)
	prepare := func() *pair {
		x := opened(t, 24)
		x.append("a")
		x.sync()
		x.compact("b", "c")
		return x
	}
	grow := func(x *pair) api.Errno { return x.append(text) }
	if n := eachFuse(t, prepare, grow); n != 5 {
		t.Errorf("%d writes and syncs", n)
	}
	got := trace(t, func() *disk.Disk { return prepare().d }, func(d *disk.Disk) api.Errno {
		l, e := log.Open(d)
		is(t, e, api.OK)
		return l.Append(text)
	})
	if !slices.Equal(got, []string{"w15", "w16", "w17", "w18", "w19"}) {
		t.Errorf("%v", got)
	}
}

// TestAllSectorsAreWritten: of a text of bytes 0 as well, though they lie there already.
func TestAllSectorsAreWritten(t *testing.T) {
	x := opened(t, 24)
	is(t, x.append(strings.Repeat("\x00", 46+3*64)), api.OK)
	if x.d.Waits() != 4 {
		t.Errorf("%d writes wait", x.d.Waits())
	}
	is(t, x.compact(strings.Repeat("\x00", 46+3*64)), api.OK)
	x.crash()
	is(t, x.open(), api.OK)
	tells(t, x.l, 2, 7, strings.Repeat("\x00", 46+3*64))
}

// TestSync: it is the disk's, though nothing waits.
func TestSync(t *testing.T) {
	x := opened(t, 20)
	is(t, x.sync(), api.OK)
	x.append("a")
	x.append(long(100))
	if x.d.Waits() != 3 {
		t.Fatalf("%d writes wait", x.d.Waits())
	}
	is(t, x.sync(), api.OK)
	if x.d.Waits() != 0 {
		t.Fatalf("%d writes wait", x.d.Waits())
	}
	x.fuse(2)
	is(t, x.sync(), api.OK)
	is(t, x.sync(), api.ErrDown)
	x.crash()
	is(t, x.open(), api.OK)
	tells(t, x.l, 1, 6, "a", long(100))
	x.append("b")
	x.fuse(1)
	is(t, x.sync(), api.ErrDown)
	x.crash()
	is(t, x.open(), api.OK)
	tells(t, x.l, 1, 6, "a", long(100))
}

// TestOtherLog: what one wrote, another one has that is opened on the same disk.
func TestOtherLog(t *testing.T) {
	d := newDisk(t, 40)
	var want []string
	for i := range 12 {
		l, e := log.Open(d)
		is(t, e, api.OK)
		tells(t, l, 1+i/4, 19-len(want), want...)
		want = append(want, fmt.Sprint("text ", i))
		is(t, l.Append(want[len(want)-1]), api.OK)
		if i%4 == 3 {
			want = want[len(want)/2:]
			is(t, l.Compact(want...), api.OK)
		}
	}
}

// Promise 16.3.

func TestCompact(t *testing.T) {
	x := opened(t, 20)
	x.append("a")
	x.append("b")
	for i, texts := range [][]string{{"c"}, nil, {"d", long(47), "e"}, {}, {"f", "g", "h", "i", "j", "k", "l", "m", "n"}, {long(9*64 - frontLong)}, {"o"}} {
		is(t, x.compact(texts...), api.OK)
		tells(t, x.l, 2+i, 9-(len(laid(1, texts...))-1), texts...)
		if x.m.half != (i+1)%2 {
			t.Fatalf("the half %d is in use", x.m.half)
		}
		half := read(t, x.d)[10*x.m.half:][:10]
		want := laid(2+i, texts...)
		if !slices.Equal(half, append(want, zeroSectors(10-len(want))...)) || x.d.Waits() != 0 {
			t.Fatalf("the texts %q do not lie as they should", texts)
		}
		x.crash()
		is(t, x.open(), api.OK)
		tells(t, x.l, 2+i, 9-(len(want)-1), texts...)
	}
}

// TestCompactGoesOn: what is appended behind a compaction is its half's.
func TestCompactGoesOn(t *testing.T) {
	x := opened(t, 12)
	for i := range 20 {
		is(t, x.compact(fmt.Sprint("kept ", i)), api.OK)
		is(t, x.append(fmt.Sprint("more ", i)), api.OK)
		is(t, x.append(long(47)), api.OK)
		is(t, x.append("full"), api.OK)
		is(t, x.append("full"), api.ErrSpace)
		if i%3 == 0 {
			x.sync()
			x.crash()
			is(t, x.open(), api.OK)
		}
		tells(t, x.l, i+2, 0, fmt.Sprint("kept ", i), fmt.Sprint("more ", i), long(47), "full")
	}
}

func TestCompactRefuses(t *testing.T) {
	nine := strings.Split("abcdefghi", "")
	for _, x := range []struct {
		texts []string
		want  api.Errno
	}{
		{[]string{""}, api.ErrRange},
		{[]string{long(2001)}, api.ErrLong},
		{[]string{"a", ""}, api.ErrRange},
		{[]string{"a", long(2001)}, api.ErrLong},
		{[]string{"", long(2001)}, api.ErrRange},
		{[]string{long(2001), ""}, api.ErrLong},
		{[]string{long(2000), ""}, api.ErrRange},
		{[]string{long(2000), long(2001)}, api.ErrLong},
		{append(slices.Repeat([]string{long(2000)}, 50), ""), api.ErrRange},
		{append(slices.Repeat([]string{long(2000)}, 50), long(70000)), api.ErrLong},
		{[]string{long(2000)}, api.ErrSpace},
		{[]string{long(9*64 - frontLong + 1)}, api.ErrSpace},
		{append(slices.Clone(nine), "j"), api.ErrSpace},
		{append(slices.Clone(nine[:8]), long(47)), api.ErrSpace},
		{append([]string{long(47)}, nine[:8]...), api.ErrSpace},
		{slices.Repeat([]string{"a"}, 5000), api.ErrSpace},
		{nine, api.OK},
		{append(slices.Clone(nine[:7]), long(110)), api.OK},
	} {
		for _, ahead := range [][]string{nil, {"z"}, nine} {
			y := opened(t, 20)
			for _, text := range ahead {
				y.append(text)
			}
			was := slices.Clone(x.texts)
			if x.want == api.OK {
				is(t, y.compact(x.texts...), api.OK)
			} else {
				quiet(t, y.d, func(*disk.Disk) { is(t, y.l.Compact(x.texts...), x.want) })
				tells(t, y.l, 1, 9-len(ahead), ahead...)
			}
			if !slices.Equal(x.texts, was) {
				t.Fatal("the texts were changed")
			}
		}
	}
}

// TestCompactInOrder: what is written and synced: nothing is cleaned where all is 0, and what lies there is, its head first.
func TestCompactInOrder(t *testing.T) {
	three := []string{"n", long(47), "m"}
	for _, x := range []struct {
		name    string
		prepare func(x *pair)
		texts   []string
		want    string
	}{
		{"the other half was never used", func(x *pair) {}, nil, "s w10 s"},
		{"the other half was never used, texts", func(x *pair) {}, three, "w11 w12 w13 w14 s w10 s"},
		{"the other half has a head", func(x *pair) { x.compact() }, []string{"a"}, "w0 s w1 s w0 s"},
		{"the other half has records", func(x *pair) { x.append("a"); x.append("b"); x.sync(); x.compact("c") }, three, "w0 w1 w2 s w1 w2 w3 w4 s w0 s"},
		{"the other half has all kinds", func(x *pair) { x.lays(12, all('a'), all(0), all('b')); x.lays(19, all('c')); x.open() }, []string{"a"}, "w12 w14 w19 s w11 s w10 s"},
		{"the other half has a head that is not right", func(x *pair) { x.lays(10, laid(9)[0][:63]+"\x01"); x.open() }, nil, "w10 s s w10 s"},
		{"records wait", func(x *pair) { x.append("a"); x.append(long(47)) }, []string{"b"}, "w11 s w10 s"},
		{"records wait, the other half has some", func(x *pair) { x.append("a"); x.compact("b"); x.append("c") }, []string{"d"}, "w0 w1 s w1 s w0 s"},
	} {
		prepare := func() *pair {
			y := opened(t, 20)
			x.prepare(y)
			return y
		}
		got := trace(t, func() *disk.Disk { return prepare().d }, func(d *disk.Disk) api.Errno {
			l, e := log.Open(d)
			is(t, e, api.OK)
			return l.Compact(x.texts...)
		})
		if strings.Join(got, " ") != x.want {
			t.Errorf("%s: %v; want %s", x.name, got, x.want)
		}
		n := eachFuse(t, prepare, func(y *pair) api.Errno { return y.compact(x.texts...) })
		if want := len(strings.Fields(x.want)); n != want {
			t.Errorf("%s: %d writes and syncs; want %d", x.name, n, want)
		}
	}
}

// TestCompactOnTheGreatestDisk: full halves of 512 sectors.
func TestCompactOnTheGreatestDisk(t *testing.T) {
	x := opened(t, sectorsMost)
	var many []string
	for i := range 511 {
		many = append(many, fmt.Sprint("text ", i))
	}
	is(t, x.compact(append(slices.Clone(many), "one more")...), api.ErrSpace)
	is(t, x.compact(many...), api.OK)
	tells(t, x.l, 2, 0, many...)
	is(t, x.append("a"), api.ErrSpace)
	x.crash()
	is(t, x.open(), api.OK)
	tells(t, x.l, 2, 0, many...)
	is(t, x.compact(many[300:]...), api.OK)
	is(t, x.compact(slices.Repeat([]string{long(2000)}, 15)...), api.OK)
	tells(t, x.l, 4, 511-15*32, slices.Repeat([]string{long(2000)}, 15)...)
	is(t, x.append(long(31*64-frontLong+1)), api.ErrSpace)
	is(t, x.append(long(31*64-frontLong)), api.OK)
	is(t, x.compact(slices.Repeat([]string{long(2000)}, 16)...), api.ErrSpace)
}

// TestLastGenerations: behind 2^31 - 1 there is none, whichever half it lies in.
func TestLastGenerations(t *testing.T) {
	for from, sectors := range map[int]int{0: 12, 6: 13} {
		x := newPair(t, sectors)
		x.lays(from, laid(1<<31-3, "a")...)
		is(t, x.open(), api.OK)
		tells(t, x.l, 1<<31-3, 4, "a")
		is(t, x.compact("b"), api.OK)
		tells(t, x.l, 1<<31-2, 4, "b")
		x.crash()
		is(t, x.open(), api.OK)
		tells(t, x.l, 1<<31-2, 4, "b")
		is(t, x.compact("c", "d"), api.OK)
		tells(t, x.l, 1<<31-1, 3, "c", "d")
		x.crash()
		is(t, x.open(), api.OK)
		quiet(t, x.d, func(*disk.Disk) {
			is(t, x.l.Compact("e"), api.ErrLong)
			is(t, x.l.Compact(), api.ErrLong)
			is(t, x.l.Compact("e", ""), api.ErrRange)
			is(t, x.l.Compact("e", long(2001)), api.ErrLong)
			is(t, x.l.Compact("e", long(2000)), api.ErrSpace)
			is(t, x.l.Compact(strings.Split("abcdef", "")...), api.ErrSpace)
		})
		x.open()
		tells(t, x.l, 1<<31-1, 3, "c", "d")
		is(t, x.append("more"), api.OK)
		is(t, x.sync(), api.OK)
		x.crash()
		is(t, x.open(), api.OK)
		tells(t, x.l, 1<<31-1, 2, "c", "d", "more")
	}
}

// TestEndOfGenerations: what Open, Generation and Compact answer at heads next to 2^31 - 1, the last generation, and at those of the greatest numbers that four bytes tell: in either half, alone and beside a head of a smaller generation.
func TestEndOfGenerations(t *testing.T) {
	for _, x := range []struct {
		four         string // a head's bytes of its generation
		generation   int    // 0: it is none
		compact      api.Errno
		next, beside int // behind Compact; of the other half's head
	}{
		{"\x7f\xff\xff\xfd", 2147483645, api.OK, 2147483646, 2147483644},
		{"\x7f\xff\xff\xfe", 2147483646, api.OK, 2147483647, 2147483645},
		{"\x7f\xff\xff\xfe", 2147483646, api.OK, 2147483647, 1},
		{"\x7f\xff\xff\xff", 2147483647, api.ErrLong, 0, 2147483646},
		{"\x7f\xff\xff\xff", 2147483647, api.ErrLong, 0, 1},
		{"\x80\x00\x00\x00", 0, 0, 0, 2147483647},
		{"\x80\x00\x00\x00", 0, 0, 0, 2147483646},
		{"\x80\x00\x00\x00", 0, 0, 0, 1},
		{"\x80\x00\x00\x01", 0, 0, 0, 2147483647},
		{"\xc0\x00\x00\x00", 0, 0, 0, 77},
		{"\xff\xff\xff\xfe", 0, 0, 0, 2147483647},
		{"\xff\xff\xff\xff", 0, 0, 0, 2147483647},
		{"\xff\xff\xff\xff", 0, 0, 0, 2147483646},
		{"\xff\xff\xff\xff", 0, 0, 0, 2},
	} {
		mark := digest("LOG\x00" + x.four)
		record, _ := laidRecord(mark, "a")
		half := append(cut("LOG\x00"+x.four+mark), record...)
		for _, sectors := range []int{12, 13} {
			for _, from := range []int{0, 6} {
				alone, both := newPair(t, sectors), newPair(t, sectors)
				alone.lays(from, half...)
				both.lays(from, half...)
				both.lays(6-from, laid(x.beside, "b")...)
				if x.generation == 0 {
					alone.begunAnew()
					both.endsAt(x.beside, "b", behindLast(x.beside))
					continue
				}
				alone.endsAt(x.generation, "a", x.compact)
				both.endsAt(x.generation, "a", x.compact)
				if x.compact == api.OK {
					tells(t, alone.l, x.next, 4, "new")
					tells(t, both.l, x.next, 4, "new")
				}
			}
		}
	}
}

// endsAt fails unless a log of a disk of 12 or 13 sectors is of that generation and text, and answers this to a compaction.
func (x *pair) endsAt(generation int, text string, compact api.Errno) {
	x.t.Helper()
	quiet(x.t, x.d, func(d *disk.Disk) {
		l, e := log.Open(d)
		is(x.t, e, api.OK)
		tells(x.t, l, generation, 4, text)
	})
	is(x.t, x.open(), api.OK)
	if compact == api.OK {
		is(x.t, x.compact("new"), api.OK)
		tells(x.t, x.l, generation+1, 4, "new")
		return
	}
	quiet(x.t, x.d, func(*disk.Disk) {
		is(x.t, x.l.Compact("new"), compact)
		is(x.t, x.l.Compact(), compact)
	})
	tells(x.t, x.l, generation, 4, text)
	is(x.t, x.append("more"), api.OK)
	tells(x.t, x.l, generation, 3, text, "more")
}

// begunAnew fails unless no head of a disk of 12 or 13 sectors is right: its log begins, and goes on over the half that lies there.
func (x *pair) begunAnew() {
	x.t.Helper()
	is(x.t, x.open(), api.OK)
	tells(x.t, x.l, 1, 5)
	if now := read(x.t, x.d); !slices.Equal(now[:6], append(laid(1), zeroSectors(5)...)) {
		x.t.Fatal("the half 0 is not begun")
	}
	is(x.t, x.append("c"), api.OK)
	is(x.t, x.sync(), api.OK)
	x.crash()
	is(x.t, x.open(), api.OK)
	tells(x.t, x.l, 1, 4, "c")
	is(x.t, x.compact("d"), api.OK)
	tells(x.t, x.l, 2, 4, "d")
	x.crash()
	is(x.t, x.open(), api.OK)
	tells(x.t, x.l, 2, 4, "d")
}

// TestGreaterGenerations: heads of them in both halves are as none at all.
func TestGreaterGenerations(t *testing.T) {
	greater := []int{1 << 31, 1<<31 + 1, 3 << 30, 1<<32 - 1<<24, 1<<32 - 2, 1<<32 - 1}
	for _, first := range greater {
		for _, other := range greater {
			x := newPair(t, 12)
			x.lays(0, laid(first, "a", "b")...)
			x.lays(6, laid(other, "c")...)
			x.begunAnew()
		}
	}
}

// Promise 16.4.

// step is one call on a log.
type step struct {
	kind string // append, sync, compact or open
	text []string
}

// story is a log, and what must be there behind a crash.
type story struct {
	t    *testing.T
	d    *disk.Disk
	l    *log.Log
	had  []string // its records, and one that is under way
	safe int      // how many of them were synced
	will []string // the texts of a compaction under way
	in   bool     // whether one is
}

// begins is a story of a disk that has something on it already.
func begins(t *testing.T, d *disk.Disk) *story {
	t.Helper()
	l, e := log.Open(d)
	is(t, e, api.OK)
	s := &story{t: t, d: d, l: l, had: l.Records()}
	if d.Waits() == 0 {
		s.safe = len(s.had)
	}
	return s
}

// does plays steps, up to the first at which the disk is down.
func (s *story) does(steps []step) (through bool) {
	s.t.Helper()
	for _, x := range steps {
		switch e := s.one(x); e {
		case api.OK:
		case api.ErrDown:
			return false
		default:
			s.t.Fatalf("%v: error %d", x, e)
		}
	}
	return true
}

func (s *story) one(x step) api.Errno {
	switch x.kind {
	case "append":
		s.had = append(s.had, x.text[0])
		return s.l.Append(x.text[0])
	case "sync":
		e := s.l.Sync()
		if e == api.OK {
			s.safe = len(s.had)
		}
		return e
	case "open":
		l, e := log.Open(s.d)
		s.l = l
		return e
	}
	s.will, s.in = x.text, true
	e := s.l.Compact(x.text...)
	if e == api.OK {
		s.had, s.safe, s.in = slices.Clone(x.text), len(x.text), false
	}
	return e
}

// lasts fails unless a log that is opened behind a crash has what the promise says, and goes on from there: what it appends and syncs is there behind the next crash.
func (s *story) lasts(picks []int) (behind string) {
	s.t.Helper()
	is(s.t, s.d.Crash(picks...), api.OK)
	l, e := log.Open(s.d)
	is(s.t, e, api.OK)
	got := l.Records()
	old := len(got) >= s.safe && len(got) <= len(s.had) && slices.Equal(got, s.had[:len(got)])
	texts := s.in && slices.Equal(got, s.will)
	if !old && !texts {
		s.t.Fatalf("picks %v: the records are %q; there were %q, %d of them synced; a compaction %t to %q", picks, got, s.had, s.safe, s.in, s.will)
	}
	if e := l.Append("then"); e == api.OK {
		got = append(got, "then")
	} else {
		is(s.t, e, api.ErrSpace)
	}
	is(s.t, l.Sync(), api.OK)
	is(s.t, s.d.Crash(picks...), api.OK)
	l, e = log.Open(s.d)
	is(s.t, e, api.OK)
	tells(s.t, l, l.Generation(), l.Room(), got...)
	switch {
	case texts && !old:
		return "texts"
	case s.in:
		return "what there was"
	}
	return "a beginning"
}

// manyPicks is picks of all kinds for so many writes that wait.
func manyPicks(by *rand.Rand, waits int) (l [][]int) {
	for _, p := range []int{0, 1, 2, 3, 4, 7, 8, 17, 18, 19, 23, 24, 25, 40, 63, 64, 65, 66} {
		l = append(l, slices.Repeat([]int{p}, waits))
	}
	for i := range waits { // one alone; all but one; a beginning, its last one torn
		one, but := make([]int, waits), slices.Repeat([]int{64}, waits)
		one[i], but[i] = 64, 0
		torn := append(slices.Repeat([]int{64}, i), 1+by.Intn(63))
		l = append(l, one, but, but[:i], torn)
	}
	for range 12 {
		drawn := make([]int, waits)
		for i := range drawn {
			drawn[i] = []int{0, 64, by.Intn(65), by.Intn(1000)}[by.Intn(4)]
		}
		l = append(l, drawn)
	}
	return l
}

// stories is steps that are played behind one another, of which some tear what others left.
func stories() map[string][]step {
	a := func(text string) step { return step{"append", []string{text}} }
	c := func(texts ...string) step { return step{"compact", texts} }
	sync, open := step{kind: "sync"}, step{kind: "open"}
	zero := func(n int) string { return strings.Repeat("\x00", n) }
	return map[string][]step{
		"appends":                   {a("a"), a(long(46)), sync, a(long(47)), a("b"), a(long(200)), sync, a("c"), a("d")},
		"no sync":                   {a("a"), a(long(100)), a("b"), a(long(300)), a("c")},
		"texts of bytes 0":          {a(zero(1)), a(zero(47)), sync, a(zero(46)), a(zero(110)), a("a" + zero(200)), sync},
		"the same texts":            {a("a"), a("a"), sync, a("a"), a("a"), sync, a("a"), c("a", "a"), a("a"), c("a", "a", "a"), a("a")},
		"opens":                     {a("a"), open, a("b"), sync, open, a("c"), open, c("d"), open, a("e")},
		"a compaction":              {a("a"), a(long(60)), sync, c("b", long(50), "c"), a("d"), sync},
		"a compaction, no sync":     {a("a"), sync, a(long(60)), a("x"), c("b", long(50)), a("d")},
		"compactions to none":       {a("a"), c(), a("b"), sync, c(), c(), a("c")},
		"compactions":               {a("a"), a(long(100)), c("b", "c"), a("d"), c("d", long(80)), a("e"), sync, c("f"), c("g", "h", "i"), a("j")},
		"a compaction to the same":  {a("a"), a("b"), sync, c("a", "b"), c("a", "b"), a("c"), c("a", "b")},
		"a compaction to less":      {a("a"), a("b"), a("c"), c("a", "b"), c("a"), c()},
		"as much as there is room":  {a(long(11*64 - frontLong)), sync, c(long(11*64 - frontLong)), c(strings.Split("abcdefghijk", "")...), c(long(11*64 - frontLong))},
		"a compaction after a torn": {c(strings.Split("abcdefghijk", "")...), c("a"), a(long(300)), c("z", long(100))},
	}
}

// TestWhatIsSyncedLasts: a fuse at each write and sync on the way, with picks of all kinds.
func TestWhatIsSyncedLasts(t *testing.T) {
	behind := map[string]int{}
	for name, steps := range stories() {
		by := rand.New(rand.NewSource(16))
		for n := 1; ; n++ {
			play := func() (*story, bool) {
				s := begins(t, newDisk(t, 24))
				is(t, s.d.Fuse(n), api.OK)
				return s, s.does(steps)
			}
			s, through := play()
			for _, picks := range manyPicks(by, s.d.Waits()) {
				s, _ = play()
				behind[s.lasts(picks)]++
			}
			if through {
				break
			}
			if n > 1000 {
				t.Fatal(name, "does not end")
			}
		}
	}
	for _, kind := range []string{"texts", "what there was", "a beginning"} {
		if behind[kind] < 100 {
			t.Errorf("behind crashes there were %v", behind)
		}
	}
}

// TestCrashesOfOpen: what a crash left is opened, a fuse at each write and sync on the way, and crashes again.
func TestCrashesOfOpen(t *testing.T) {
	torn := 0
	for name, steps := range stories() {
		by := rand.New(rand.NewSource(17))
		for n := 1; ; n += 1 + by.Intn(3) {
			s := begins(t, newDisk(t, 24))
			is(t, s.d.Fuse(n), api.OK)
			through := s.does(steps)
			first := make([]int, s.d.Waits())
			for i := range first {
				first[i] = []int{0, 64, by.Intn(65)}[by.Intn(3)]
			}
			for m := 1; ; m++ {
				play := func() (*story, bool) {
					s := begins(t, newDisk(t, 24))
					s.d.Fuse(n)
					s.does(steps)
					is(t, s.d.Crash(first...), api.OK)
					is(t, s.d.Fuse(m), api.OK)
					_, e := log.Open(s.d)
					return s, e == api.OK
				}
				s, opens := play()
				for _, picks := range manyPicks(by, s.d.Waits()) {
					s, _ = play()
					s.lasts(picks)
				}
				if opens {
					break
				}
				torn++
			}
			if through {
				break
			}
			if n > 1000 {
				t.Fatal(name, "does not end")
			}
		}
	}
	if torn < 100 {
		t.Errorf("only %d crashes were in Open", torn)
	}
}

// TestCrashesOfTheFirstOpen: on a disk with all kinds of things on it, no log among them.
func TestCrashesOfTheFirstOpen(t *testing.T) {
	for seed := range int64(40) {
		prepare := func() *disk.Disk {
			by := rand.New(rand.NewSource(seed))
			d := newDisk(t, 8+by.Intn(8))
			for i := range d.Size() {
				if by.Intn(2) == 0 {
					d.Write(i, drawnText(by, sectorLong))
				}
			}
			d.Sync()
			return d
		}
		by := rand.New(rand.NewSource(seed))
		for n := 1; ; n++ {
			play := func() (*story, bool) {
				d := prepare()
				d.Fuse(n)
				_, e := log.Open(d)
				return &story{t: t, d: d}, e == api.OK
			}
			s, through := play()
			for _, picks := range manyPicks(by, s.d.Waits()) {
				s, _ = play()
				s.lasts(picks)
			}
			if through {
				break
			}
		}
	}
}

// TestDrawnStories: crashes behind one another, each behind some steps.
func TestDrawnStories(t *testing.T) {
	behind := map[string]int{}
	for seed := range int64(1500) {
		by := rand.New(rand.NewSource(seed))
		d := newDisk(t, 10+by.Intn(30))
		for range 8 {
			s := begins(t, d)
			is(t, d.Fuse(by.Intn(40)), api.OK)
			for range by.Intn(12) {
				x := drawnStep(by)
				e := s.one(x)
				if e == api.ErrDown {
					break
				}
				if e == api.ErrSpace && x.kind == "append" {
					s.had = s.had[:len(s.had)-1]
				}
				if e == api.ErrSpace {
					s.in = false
				}
			}
			picks := manyPicks(by, s.d.Waits())
			behind[s.lasts(picks[by.Intn(len(picks))])]++
		}
	}
	for _, kind := range []string{"texts", "what there was", "a beginning"} {
		if behind[kind] < 50 {
			t.Errorf("behind crashes there were %v", behind)
		}
	}
}

func drawnStep(by *rand.Rand) step {
	var texts []string
	for range 1 + by.Intn(4) {
		texts = append(texts, drawnText(by, 1+by.Intn(130)))
	}
	switch by.Intn(6) {
	case 0:
		return step{"sync", nil}
	case 1:
		return step{"compact", texts[1:]}
	case 2:
		return step{"open", nil}
	}
	return step{"append", texts}
}

// Mixtures.

func drawnPicks(by *rand.Rand, waits int) []int {
	l := make([]int, by.Intn(waits+3))
	for i := range l {
		l[i] = []int{0, 64, by.Intn(65), by.Intn(1 << 20)}[by.Intn(4)]
	}
	return l
}

// drawnOne is mostly a short text, now and then one that may not be, or at an edge.
func drawnOne(by *rand.Rand) string {
	switch by.Intn(12) {
	case 0:
		return drawnText(by, []int{0, 2001, 1 << 16, 2000, 1999}[by.Intn(5)])
	case 1, 2:
		return drawnText(by, 46+64*by.Intn(4)+by.Intn(2))
	case 3:
		return drawnText(by, by.Intn(textMost))
	}
	return drawnText(by, 1+by.Intn(60))
}

// plays one drawn call.
func (x *pair) plays(by *rand.Rand) (call string, e api.Errno) {
	x.t.Helper()
	if x.p.down {
		if by.Intn(4) == 0 {
			return "open", x.open()
		}
		x.crash(drawnPicks(by, x.d.Waits())...)
		return "crash", api.OK
	}
	if x.l == nil {
		return "open", x.open()
	}
	switch k := by.Intn(40); {
	case k < 22:
		return "append", x.append(drawnOne(by))
	case k < 27:
		return "sync", x.sync()
	case k < 33:
		var texts []string
		for range by.Intn(5) {
			texts = append(texts, drawnOne(by))
		}
		return "compact", x.compact(texts...)
	case k < 35:
		return "open", x.open()
	case k < 37:
		x.fuse(by.Intn(30))
		return "fuse", api.OK
	}
	x.crash(drawnPicks(by, x.d.Waits())...)
	return "crash", api.OK
}

func TestAsPlain(t *testing.T) {
	told := map[string]map[api.Errno]int{"append": {}, "sync": {}, "compact": {}, "open": {}, "fuse": {}, "crash": {}}
	for seed := range int64(300) {
		by := rand.New(rand.NewSource(seed))
		sizes := []int{4, 5, 6, 7, 8, 9, 16, 20, 21, 33, 64, 80, 129, 150}
		size := sizes[int(seed)%len(sizes)]
		if seed%50 == 49 {
			size = sectorsMost - int(seed/50)%2
		}
		x := newPair(t, size)
		for range 150 {
			call, e := x.plays(by)
			told[call][e]++
		}
	}
	for call, want := range map[string][]api.Errno{"append": {api.OK, api.ErrRange, api.ErrLong, api.ErrSpace, api.ErrDown}, "sync": {api.OK, api.ErrDown}, "compact": {api.OK, api.ErrRange, api.ErrLong, api.ErrSpace, api.ErrDown}, "open": {api.OK, api.ErrDown}} {
		for _, e := range want {
			if told[call][e] < 50 {
				t.Errorf("%s told the error %d %d times: too few", call, e, told[call][e])
			}
		}
		if len(told[call]) != len(want) {
			t.Errorf("%s told %v", call, told[call])
		}
	}
}

// TestShortPlays: all plays of five calls of these, of which those need a log that there is.
func TestShortPlays(t *testing.T) {
	asks := func(call func(x *pair)) func(x *pair) {
		return func(x *pair) {
			if x.l != nil {
				call(x)
			}
		}
	}
	calls := []func(x *pair){
		asks(func(x *pair) { x.append("a") }),
		asks(func(x *pair) { x.append(long(47)) }),
		asks(func(x *pair) { x.sync() }),
		asks(func(x *pair) { x.compact() }),
		asks(func(x *pair) { x.compact("b", "c") }),
		func(x *pair) {
			if !x.p.down {
				x.fuse(3)
			}
		},
		func(x *pair) { x.crash() },
		func(x *pair) { x.crash(64, 20, 64); x.open() },
		func(x *pair) { x.open() },
	}
	many := 1
	for range 5 {
		many *= len(calls)
	}
	for play := range many {
		x := opened(t, 8)
		for n, k := play, 0; k < 5; n, k = n/len(calls), k+1 {
			calls[n%len(calls)](x)
		}
	}
}

// Rules that hold everywhere.

// TestRefusedCallsChangeNothing plays the same calls with two logs, one of them with refused ones between.
func TestRefusedCallsChangeNothing(t *testing.T) {
	for seed := range int64(60) {
		by := rand.New(rand.NewSource(seed))
		size := 4 + by.Intn(20)
		quiet, x := newPair(t, size), newPair(t, size)
		for range 60 {
			if x.l != nil {
				is(t, x.l.Append(""), api.ErrRange)
				is(t, x.l.Append(long(2001)), api.ErrLong)
				is(t, x.l.Append(long(x.l.Room()*64-frontLong+1+boolInt(x.l.Room() == 0)*18)), api.ErrSpace)
				is(t, x.l.Compact("a", ""), api.ErrRange)
				is(t, x.l.Compact("a", long(2001)), api.ErrLong)
				is(t, x.l.Compact(slices.Repeat([]string{"a"}, size/2)...), api.ErrSpace)
				x.looks()
			}
			play := by.Int63()
			quiet.plays(rand.New(rand.NewSource(play)))
			x.plays(rand.New(rand.NewSource(play)))
		}
	}
}

func boolInt(b bool) int {
	if b {
		return 1
	}
	return 0
}

// TestAsksChangeNothing: neither the fuse nor what waits.
func TestAsksChangeNothing(t *testing.T) {
	x := opened(t, 20)
	x.append("a")
	quiet(t, x.d, func(*disk.Disk) {
		for range 10 {
			tells(t, x.l, 1, 8, "a")
		}
	})
}

// TestRecordsAreNew: what is answered may be changed, its spare room too.
func TestRecordsAreNew(t *testing.T) {
	x := opened(t, 60)
	for i := range 20 {
		x.append(fmt.Sprint("text ", i))
		first, second := x.l.Records(), x.l.Records()
		was := slices.Clone(second)
		for k := range first {
			first[k] = "changed"
		}
		_ = append(first, "spare")
		first = first[:cap(first)]
		for k := range first {
			first[k] = "spare"
		}
		if !slices.Equal(second, was) {
			t.Fatalf("another answer became %q", second)
		}
		x.looks()
	}
	x.compact(x.l.Records()...)
	x.open()
	tells(t, x.l, 2, 9, x.m.texts...)
}

// TestTextsAreNotChanged, nor read or written behind their length, nor kept.
func TestTextsAreNotChanged(t *testing.T) {
	room := []string{"a", long(47), "b", "c", "", long(3000)}
	was := slices.Clone(room)
	for many := range 5 {
		x := opened(t, 30)
		is(t, x.compact(room[:many]...), api.OK)
		if !slices.Equal(room, was) {
			t.Fatal("the texts were changed")
		}
		is(t, x.append("more"), api.OK)
		if !slices.Equal(room, was) {
			t.Fatal("the texts were changed")
		}
		given := slices.Clone(room[:many])
		is(t, x.compact(given...), api.OK)
		for i := range given {
			given[i] = "changed"
		}
		x.looks()
	}
}

// TestNothingIsShared: texts are written over once they were handed in or answered, as no program of the language could; the log and the disk have them still.
func TestNothingIsShared(t *testing.T) {
	spoil := func(s string) {
		b := unsafe.Slice(unsafe.StringData(s), len(s))
		for i := range b {
			b[i] = '?'
		}
	}
	x := opened(t, 60)
	for k := range 30 {
		text := strings.Clone(fmt.Sprint("a text of number ", k))
		kept := strings.Clone(text)
		if k%7 == 6 {
			is(t, x.m.compact(kept, kept), api.OK)
			is(t, x.l.Compact(text, text), api.OK)
		} else {
			is(t, x.m.append(kept), api.OK)
			is(t, x.l.Append(text), api.OK)
		}
		spoil(text)
		x.looks()
		if k%5 == 4 {
			x.open()
		}
		first, second := x.l.Records(), x.l.Records()
		for _, s := range first {
			spoil(s)
		}
		if !slices.Equal(second, x.m.texts) {
			t.Fatalf("another answer became %q", second)
		}
		x.looks()
	}
}

// TestLogOfADiskThatWasDown: a log whose disk was down, or crashed, is not to be asked; its calls end all the same.
func TestLogOfADiskThatWasDown(t *testing.T) {
	for n := range 12 {
		for _, crashed := range []bool{false, true} {
			x := opened(t, 16)
			x.append("a")
			l := x.l
			x.fuse(n)
			for range 3 {
				l.Append(long(60))
				l.Compact("b", "c")
				if crashed {
					x.d.Crash(7, 64)
				}
				l.Sync()
				l.Records()
				l.Room()
				l.Generation()
			}
		}
	}
}

// TestLogsDoNotKnowOfOneAnother: neither of records nor of generations nor of what befalls disks.
func TestLogsDoNotKnowOfOneAnother(t *testing.T) {
	a, b := opened(t, 20), opened(t, 20)
	a.append("a")
	b.looks()
	b.compact("b", "c")
	tells(t, a.l, 1, 8, "a")
	a.fuse(1)
	is(t, b.sync(), api.OK)
	is(t, a.sync(), api.ErrDown)
	tells(t, b.l, 2, 7, "b", "c")
	is(t, b.append("d"), api.OK)
	a.crash()
	tells(t, b.l, 2, 6, "b", "c", "d")
	by := rand.New(rand.NewSource(16))
	l := []*pair{newPair(t, 4), newPair(t, 12), newPair(t, 12)}
	for range 3000 {
		l[by.Intn(len(l))].plays(by)
		for _, other := range l {
			other.looks()
		}
	}
}

// TestSameCallsTellTheSame, again and again, and at the same time.
func TestSameCallsTellTheSame(t *testing.T) {
	play := func() string {
		by := rand.New(rand.NewSource(4))
		d, _ := disk.New(20)
		l, _ := log.Open(d)
		var said strings.Builder
		for range 600 {
			var e api.Errno
			switch by.Intn(8) {
			case 0:
				e = l.Sync()
			case 1:
				e = l.Compact(drawnOne(by), drawnOne(by))
			case 2:
				d.Fuse(by.Intn(9))
			case 3:
				d.Crash(drawnPicks(by, d.Waits())...)
				l, e = log.Open(d)
			default:
				e = l.Append(drawnOne(by))
			}
			if e == api.ErrDown {
				d.Crash(drawnPicks(by, d.Waits())...)
				l, e = log.Open(d)
			}
			fmt.Fprintf(&said, "%d %x %d %d %d\n", e, l.Records(), l.Room(), l.Generation(), d.Waits())
			for i := range d.Size() {
				s, e := d.Read(i)
				fmt.Fprintf(&said, "%x %d\n", s, e)
			}
		}
		return said.String()
	}
	want := play()
	var everyone sync.WaitGroup
	said := make([]string, 8)
	for k := range said {
		everyone.Go(func() { said[k] = play() })
	}
	everyone.Wait()
	for _, s := range said {
		if s != want {
			t.Fatal("another answer")
		}
	}
}
