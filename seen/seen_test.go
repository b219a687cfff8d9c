package seen_test

import (
	"fmt"
	"math"
	"math/rand"
	"slices"
	"strings"
	"sync"
	"testing"
	"unsafe"

	"dovecote/api"
	"dovecote/disk"
	"dovecote/log"
	"dovecote/seen"
)

const (
	sectorLong  = 64
	sectorsMost = 1024
)

// tag is one of as many as one likes.
func tag(k int) string { return fmt.Sprintf("tag %12d", k) }

func tags(from, to int) (l []string) {
	for k := from; k < to; k++ {
		l = append(l, tag(k))
	}
	return l
}

// long is a text of n bytes.
func long(n int) string { return strings.Repeat("x", n) }

// someTags is tags whose bytes are of all kinds, those of records among them.
func someTags() []string {
	return []string{
		strings.Repeat("\x00", 16), strings.Repeat("\xff", 16), strings.Repeat("\x00", 15) + "\x01", "\x01" + strings.Repeat("\x00", 15),
		strings.Repeat("T", 16), strings.Repeat("E", 16), "E\x00\x00\x00\x01" + strings.Repeat("\x00", 11), "T" + long(15), long(15) + "\x00",
		"\xc3\x28\xf0\x90\x28\xbc\xff\xfe\x80\x80\x80\x80\x80\x80\x80\x80",
	}
}

// wrongLengths is lengths that a tag has not.
func wrongLengths() []int { return []int{0, 1, 4, 15, 17, 32, 64, 2000, 2001, 1 << 16} }

// wrongMosts is numbers that most may not be.
func wrongMosts() []int {
	return []int{0, -1, -16, 4097, 4098, 1 << 16, 1 << 31, 1<<32 + 1, math.MaxInt, math.MinInt}
}

// read is all sectors of a disk that is up.
func read(t *testing.T, d *disk.Disk) (l []string) {
	t.Helper()
	for i := range d.Size() {
		s, e := d.Read(i)
		is(t, e, api.OK)
		l = append(l, s)
	}
	return l
}

// takeDown leaves a disk that is down.
func takeDown(t *testing.T, d *disk.Disk) {
	t.Helper()
	is(t, d.Fuse(1), api.OK)
	is(t, d.Sync(), api.ErrDown)
}

// quiet fails unless a call neither writes nor syncs: a fuse of 1 is not through.
func quiet(t *testing.T, d *disk.Disk, call func()) {
	t.Helper()
	was := read(t, d)
	if d.Waits() != 0 {
		t.Fatal("something waits already")
	}
	is(t, d.Fuse(1), api.OK)
	call()
	if d.Waits() != 0 || !slices.Equal(read(t, d), was) {
		t.Fatal("the disk was written")
	}
	is(t, d.Sync(), api.ErrDown)
	is(t, d.Crash(), api.OK)
}

// trace is what a call writes and syncs, found by fuses: w and a sector's number, or s. The pairs that prepare makes are alike.
func trace(t *testing.T, prepare func() *pair, call func(x *pair) api.Errno) string {
	t.Helper()
	var does []string
	x := prepare()
	before, waited := read(t, x.d), x.d.Waits()
	for n := 2; ; n++ {
		x := prepare()
		x.fuse(n)
		e := call(x)
		waits := x.d.Waits()
		is(t, x.d.Crash(slices.Repeat([]int{64}, waits)...), api.OK)
		now := read(t, x.d)
		if waits == waited+1 {
			does = append(does, "w"+changed(before, now))
		} else if waits == 0 && slices.Equal(before, now) {
			does = append(does, "s")
		} else {
			t.Fatalf("behind %v: %d writes wait, there were %d", does, waits, waited)
		}
		if e != api.ErrDown {
			return strings.Join(does, " ")
		}
		before, waited = now, waits
	}
}

// changed is the numbers of sectors that are not the same.
func changed(before, now []string) (s string) {
	for i := range now {
		if before[i] != now[i] {
			s += fmt.Sprint(i)
		}
	}
	return s
}

// refuses fails unless Open answers an error, and no set beside it.
func refuses(t *testing.T, d *disk.Disk, most int, want api.Errno) {
	t.Helper()
	if s, e := seen.Open(d, most); s != nil || e != want {
		t.Fatalf("Open(.., %d): a set %t, error %d; want %d", most, s != nil, e, want)
	}
}

// Promise 17.1.

func TestOpenOfANewDisk(t *testing.T) {
	for _, sectors := range []int{4, 5, 6, 7, 8, 9, 20, 63, 64, 65, 127, 128, 511, 512, 1000, 1023, 1024} {
		x := opened(t, sectors, 4)
		tells(t, x.s, 0)
		holds(t, x.d, 1)
		hasJust(t, x.s, tag(0), false)
		x.crash()
		is(t, x.open(4), api.OK)
		tells(t, x.s, 0)
		is(t, x.add(tag(0)), api.OK)
		holds(t, x.d, 1, recordT(tag(0)))
	}
}

// TestSectorsByHand: heads and records whose marks were reckoned by another program.
func TestSectorsByHand(t *testing.T) {
	d := newDisk(t, 10)
	s, e := seen.Open(d, 4)
	is(t, e, api.OK)
	is(t, s.Add("afifteen bytes !"), api.OK)
	is(t, s.Rotate(), api.OK)
	is(t, s.Add("bfifteen bytes !"), api.OK)
	is(t, s.Rotate(), api.OK)
	is(t, s.Rotate(), api.OK)
	for i, want := range []string{
		"4c4f470000000001" + "94977d9c7d595a68700222c6e1130f41",
		"0011" + "caabd4946b8c97d05b3891bc1cc94589" + "54616669667465656e2062797465732021",
		"0005" + "ff89d86dd416323dfb3dc3d017ebd6b6" + "4500000001",
		"0011" + "478230dea3431d927dcfd64b2de0366c" + "54626669667465656e2062797465732021",
		"0005" + "d28c248e225ac5ac6d6aed271ee9de43" + "4500000002",
		"4c4f470000000002" + "9ec12b0e14bc181620c3b8da971b6ad2",
		"0005" + "f1252c2c81bd719cb051dbfe29088c99" + "4500000001",
		"0011" + "d0be8f2494b22c000d35bd96713e853d" + "54626669667465656e2062797465732021",
		"0005" + "058c1b75216ab59b5832d94975ed0916" + "4500000002",
		"0005" + "5670ba840093a9bbf65d2365b9e01208" + "4500000003",
	} {
		if s, _ := d.Read(i); fmt.Sprintf("%x", s) != want+strings.Repeat("0", 128-len(want)) {
			t.Errorf("the sector %d: %x", i, s)
		}
	}
	if d.Waits() != 0 {
		t.Error("something waits")
	}
}

func TestMostMayBe(t *testing.T) {
	for _, most := range []int{1, 2, 3, 255, 256, 4095, 4096} {
		x := opened(t, 20, most)
		for k := range min(most, 5) {
			is(t, x.add(tag(k)), api.OK)
		}
	}
}

// TestMostMayNotBe: ErrRange is named first, so that it is told beside all else that is wrong, and the disk is left alone.
func TestMostMayNotBe(t *testing.T) {
	for _, most := range wrongMosts() {
		refuses(t, nil, most, api.ErrRange)
		down := newDisk(t, 20)
		takeDown(t, down)
		refuses(t, down, most, api.ErrRange)
		rot := newDisk(t, 20)
		lay(t, rot, "rot")
		right := newDisk(t, 20)
		lay(t, right, recordT(tag(0)))
		dirty := newDisk(t, 20)
		is(t, dirty.Write(3, long(sectorLong)), api.OK)
		is(t, dirty.Sync(), api.OK)
		for _, d := range []*disk.Disk{newDisk(t, 1), newDisk(t, 3), newDisk(t, 4), newDisk(t, 20), rot, right, dirty} {
			quiet(t, d, func() { refuses(t, d, most, api.ErrRange) })
		}
	}
}

func TestOpenRefusesWhatTheLogRefuses(t *testing.T) {
	for _, most := range []int{1, 2, 4096} {
		refuses(t, nil, most, api.ErrNone)
		for _, sectors := range []int{1, 2, 3} {
			d := newDisk(t, sectors)
			quiet(t, d, func() { refuses(t, d, most, api.ErrShape) })
		}
		for _, sectors := range []int{4, 5, 20, 1024} {
			d := newDisk(t, sectors)
			takeDown(t, d)
			refuses(t, d, most, api.ErrDown)
			refuses(t, d, most, api.ErrDown)
			is(t, d.Crash(), api.OK)
			s, e := seen.Open(d, most)
			is(t, e, api.OK)
			tells(t, s, 0)
		}
	}
}

// TestOpenOfADiskThatRefuses: a fuse at each write and sync of the log's own opening.
func TestOpenOfADiskThatRefuses(t *testing.T) {
	for name, prepare := range map[string]func(x *pair){
		"a new disk": func(x *pair) {},
		"no log": func(x *pair) {
			for i := range 6 {
				x.said("Write", x.d.Write(i, strings.Repeat("y", sectorLong)), x.pd.Write(i, strings.Repeat("y", sectorLong)))
			}
			x.said("Sync", x.d.Sync(), x.pd.Sync())
		},
		"torn behind the records": func(x *pair) {
			x.lays(recordT(tag(0)), recordE(1), recordT(tag(1)))
			x.said("Write", x.d.Write(4, strings.Repeat("y", sectorLong)), x.pd.Write(4, strings.Repeat("y", sectorLong)))
			x.said("Write", x.d.Write(5, strings.Repeat("y", sectorLong)), x.pd.Write(5, strings.Repeat("y", sectorLong)))
			x.said("Sync", x.d.Sync(), x.pd.Sync())
		},
		"torn behind a record that may not be": func(x *pair) {
			x.lays("rot")
			x.said("Write", x.d.Write(4, strings.Repeat("y", sectorLong)), x.pd.Write(4, strings.Repeat("y", sectorLong)))
			x.said("Sync", x.d.Sync(), x.pd.Sync())
		},
	} {
		refused := 0
		for n := 1; ; n++ {
			x := newPair(t, 12)
			prepare(x)
			x.fuse(n)
			if e := x.open(4); e != api.ErrDown {
				break
			}
			refused++
			x.crash(7, 64, 0, 64)
			x.open(4)
		}
		if refused < 2 {
			t.Errorf("%s: %d writes and syncs", name, refused)
		}
	}
}

// opening is records, and what a set has that is opened on them.
type opening struct {
	name    string
	records []string
	epoch   int // -1: ErrRot
	tags    []string
}

func rightOpenings() []opening {
	a, b, c := tag(1), tag(2), tag(3)
	ta, tb, tc, e := recordT(a), recordT(b), recordT(c), recordE
	return []opening{
		{"none", nil, 0, nil},
		{"a tag", []string{ta}, 0, []string{a}},
		{"tags as they were added", []string{tb, tc, ta}, 0, []string{b, c, a}},
		{"E of 0 at first", []string{e(0)}, 0, nil},
		{"E of 0 behind tags", []string{ta, e(0), tb}, 0, []string{a, b}},
		{"E of the epoch that is", []string{e(5), ta, e(5), tb, e(5)}, 5, []string{a, b}},
		{"E of the epoch that is, tags ahead", []string{e(4), ta, e(5), e(5), tb, e(5)}, 5, []string{a, b}},
		{"E of one above", []string{ta, e(1)}, 1, []string{a}},
		{"E of one above, twice", []string{ta, e(1), tb, e(2)}, 2, []string{b}},
		{"E of one above, twice, no tag between", []string{ta, e(1), e(2)}, 2, nil},
		{"E of one above, three times", []string{ta, e(1), tb, e(2), tc, e(3)}, 3, []string{c}},
		{"E of two above", []string{ta, e(2)}, 2, nil},
		{"E of two above, tags of both", []string{ta, e(1), tb, e(3), tc}, 3, []string{c}},
		{"E of three above", []string{ta, e(1), tb, e(4)}, 4, nil},
		{"E of many above", []string{ta, e(1), tb, e(1 << 30), tc}, 1 << 30, []string{c}},
		{"E of many above, then of one", []string{ta, e(1 << 30), tc, e(1<<30 + 1), ta}, 1<<30 + 1, []string{c, a}},
		{"the epoch far on at first", []string{e(77), ta, e(78), tb}, 78, []string{a, b}},
		{"a tag twice", []string{ta, ta}, 0, []string{a}},
		{"a tag twice, another between", []string{ta, tb, ta}, 0, []string{a, b}},
		{"a tag again in the next epoch", []string{ta, tb, e(1), tc, ta}, 1, []string{a, b, c}},
		{"a tag again in the next epoch, and that behind it", []string{ta, tb, e(1), tc, ta, e(2)}, 2, []string{c}},
		{"a tag again in the next epoch, and in that behind it", []string{ta, e(1), ta, e(2), ta}, 2, []string{a}},
		{"a tag again in the epoch behind the next", []string{ta, e(1), tb, e(2), ta}, 2, []string{b, a}},
		{"a tag again in the epoch behind the next, and on", []string{ta, e(1), tb, e(2), ta, e(3)}, 3, []string{a}},
		{"a tag again behind a skip", []string{ta, e(2), ta, ta, e(3), ta}, 3, []string{a}},
		{"a tag twice, E of the same epoch between", []string{e(3), ta, e(3), ta}, 3, []string{a}},
	}
}

func wrongOpenings() []opening {
	a := tag(1)
	ta, e := recordT(a), recordE
	var l []opening
	for name, records := range map[string][]string{
		"E with no byte":                {"E"},
		"E with three bytes":            {e(0)[:4]},
		"E with five bytes":             {e(0) + "\x00"},
		"E with sixteen bytes":          {"E" + a},
		"T with no byte":                {"T"},
		"T with four bytes":             {"T\x00\x00\x00\x01"},
		"T with 15 bytes":               {ta[:16]},
		"T with 17 bytes":               {ta + "x"},
		"T with 32 bytes":               {ta + a},
		"a tag alone":                   {a},
		"an epoch alone":                {"\x00\x00\x00\x01"},
		"another first byte":            {"X" + a},
		"another first byte, four":      {"X\x00\x00\x00\x01"},
		"small letters":                 {"t" + a},
		"small letters, four":           {"e\x00\x00\x00\x01"},
		"one byte":                      {"x"},
		"one byte 0":                    {"\x00"},
		"long":                          {long(300)},
		"behind a tag":                  {ta, "x"},
		"ahead of a tag":                {"x", ta},
		"behind a tag that was added":   {ta, ta, "Tx", ta},
		"E below, by one":               {e(1), e(0)},
		"E below, by two":               {e(2), e(0)},
		"E below, of 7 by one":          {ta, e(7), ta, e(6)},
		"E below, of 7 by six":          {ta, e(7), e(1), ta},
		"E below, and up again":         {e(7), e(6), e(7)},
		"E below, and far up again":     {e(7), e(6), e(9)},
		"E below, the lowest byte more": {e(0x0100), e(0x00ff)},
		"E below, the highest byte":     {e(1 << 24), e(1<<24 - 1)},
		"E below the last":              {e(1<<31 - 1), e(1<<31 - 2)},
		"E past the last":               {e(1 << 31)},
		"E past the last, behind it":    {e(1<<31 - 1), ta, e(1 << 31)},
		"E past the last, by many":      {ta, e(1<<32 - 1)},
		"E below, behind the same":      {e(3), e(3), e(2)},
		"E below, of the epoch ahead":   {e(3), ta, e(4), e(3), recordT(tag(2))},
	} {
		l = append(l, opening{name, records, -1, nil})
	}
	return l
}

// TestRecords: a set of records that a log alone appended.
func TestRecords(t *testing.T) {
	for _, o := range append(rightOpenings(), wrongOpenings()...) {
		for _, sectors := range []int{30, 31} {
			t.Run(o.name, func(t *testing.T) {
				x := newPair(t, sectors)
				x.lays(o.records...)
				if o.epoch < 0 {
					o.isRot(x)
				} else {
					o.isRight(x)
				}
			})
		}
	}
}

func (o opening) isRot(x *pair) {
	x.t.Helper()
	refuses(x.t, x.d, 4, api.ErrRot)
	is(x.t, x.open(4), api.ErrRot)
	quiet(x.t, x.d, func() { refuses(x.t, x.d, 4, api.ErrRot) })
}

func (o opening) isRotOn(t *testing.T, sizes ...int) {
	t.Helper()
	for _, sectors := range sizes {
		x := newPair(t, sectors)
		x.lays(o.records...)
		o.isRot(x)
		holds(t, x.d, 1, o.records...)
	}
}

func (o opening) isRight(x *pair) {
	x.t.Helper()
	quiet(x.t, x.d, func() {
		s, e := seen.Open(x.d, 4)
		is(x.t, e, api.OK)
		tells(x.t, s, o.epoch, o.tags...)
		for _, k := range []int{1, 2, 3, 4} {
			hasJust(x.t, s, tag(k), slices.Contains(o.tags, tag(k)))
		}
	})
	is(x.t, x.open(4), api.OK)
	is(x.t, x.add(tag(4)), api.OK)
	is(x.t, x.rotate(), api.OK)
	is(x.t, x.rotate(), api.OK)
	tells(x.t, x.s, o.epoch+2)
}

// TestRotAtEachPlace: among records that may be, one that may not be is found wherever it stands.
func TestRotAtEachPlace(t *testing.T) {
	right := []string{recordT(tag(1)), recordE(1), recordT(tag(2)), recordT(tag(3)), recordE(1), recordE(2), recordT(tag(4)), recordE(9), recordT(tag(5))}
	for _, wrong := range []string{"x", "E", "T", recordE(3)[:4], recordT(tag(6))[:16], recordT(tag(6)) + "x", recordE(3) + "\x00", recordE(1 << 31), recordE(1<<32 - 1), long(60)} {
		for at := range len(right) + 1 {
			x := newPair(t, 40)
			x.lays(slices.Insert(slices.Clone(right), at, wrong)...)
			is(t, x.open(8), api.ErrRot)
		}
	}
	x := newPair(t, 40)
	x.lays(right...)
	is(t, x.open(8), api.OK)
	tells(t, x.s, 9, tag(5))
}

// TestEachRecord: of all first bytes, and of all lengths, those alone may be that the chapter names.
func TestEachRecord(t *testing.T) {
	for first := range 256 {
		for _, behind := range []int{0, 3, 4, 5, 15, 16, 17, 40} {
			d := newDisk(t, 8)
			lay(t, d, string([]byte{byte(first)})+strings.Repeat("\x00", behind))
			if first == 'T' && behind == 16 || first == 'E' && behind == 4 {
				_, e := seen.Open(d, 1)
				is(t, e, api.OK)
			} else {
				refuses(t, d, 1, api.ErrRot)
			}
		}
	}
	for behind := range 100 {
		for first, right := range map[string]int{"T": 16, "E": 4} {
			d := newDisk(t, 12)
			lay(t, d, first+strings.Repeat("\x00", behind))
			if behind == right {
				_, e := seen.Open(d, 1)
				is(t, e, api.OK)
			} else {
				refuses(t, d, 1, api.ErrRot)
			}
		}
	}
}

// TestBytesOfEpochs: the highest one first, read and written.
func TestBytesOfEpochs(t *testing.T) {
	for bytes, epoch := range map[string]int{
		"\x00\x00\x00\x00": 0, "\x00\x00\x00\x01": 1, "\x00\x00\x00\xff": 255, "\x00\x00\x01\x00": 256, "\x00\x00\xff\xff": 65535,
		"\x00\x01\x00\x00": 65536, "\x00\xff\xff\xff": 1<<24 - 1, "\x01\x00\x00\x00": 1 << 24, "\x01\x02\x03\x04": 0x01020304, "\x7f\xff\xff\xfd": 1<<31 - 3,
	} {
		x := newPair(t, 12)
		x.lays("E" + bytes)
		is(t, x.open(4), api.OK)
		tells(t, x.s, epoch)
		is(t, x.rotate(), api.OK)
		tells(t, x.s, epoch+1)
		next := string([]byte{byte((epoch + 1) >> 24), byte((epoch + 1) >> 16), byte((epoch + 1) >> 8), byte(epoch + 1)})
		holds(t, x.d, 1, "E"+bytes, "E"+next)
	}
}

// TestMoreTagsThanMost: by records there may be, and then none is added until fewer than most are there.
func TestMoreTagsThanMost(t *testing.T) {
	x := newPair(t, 40)
	x.lays(append(append(recordsT(tags(0, 3)...), recordE(1)), recordsT(tags(3, 6)...)...)...)
	for _, most := range []int{1, 2, 3, 4, 5, 6} {
		is(t, x.open(most), api.OK)
		tells(t, x.s, 1, tags(0, 6)...)
		quiet(t, x.d, func() {
			is(t, x.s.Add(tag(9)), api.ErrFull)
			is(t, x.s.Add(tag(0)), api.ErrSeen)
			is(t, x.s.Add(tag(5)), api.ErrSeen)
			is(t, x.s.Add("short"), api.ErrForm)
		})
	}
	is(t, x.open(7), api.OK)
	is(t, x.add(tag(9)), api.OK)
	is(t, x.add(tag(10)), api.ErrFull)
	is(t, x.open(3), api.OK)
	is(t, x.rotate(), api.OK)
	tells(t, x.s, 2, tag(3), tag(4), tag(5), tag(9))
	is(t, x.add(tag(10)), api.ErrFull)
	is(t, x.rotate(), api.OK)
	is(t, x.add(tag(10)), api.OK)
	tells(t, x.s, 3, tag(10))
}

// TestOpenedAnew: a set on a disk that another one wrote is the same, whatever most was, and goes on as that would.
func TestOpenedAnew(t *testing.T) {
	x := opened(t, 30, 8)
	for k := range 3 {
		is(t, x.add(tag(k)), api.OK)
	}
	is(t, x.rotate(), api.OK)
	is(t, x.add(tag(3)), api.OK)
	for _, most := range []int{1, 4, 8, 4096} {
		quiet(t, x.d, func() {
			s, e := seen.Open(x.d, most)
			is(t, e, api.OK)
			tells(t, s, 1, tags(0, 4)...)
		})
		is(t, x.open(most), api.OK)
		tells(t, x.s, 1, tags(0, 4)...)
	}
	for k := range 4 {
		is(t, x.add(tag(k)), api.ErrSeen)
	}
	is(t, x.rotate(), api.OK)
	is(t, x.open(8), api.OK)
	tells(t, x.s, 2, tag(3))
	is(t, x.add(tag(0)), api.OK)
	is(t, x.open(8), api.OK)
	tells(t, x.s, 2, tag(3), tag(0))
}

// TestOpenCleansBehindRecords: what a crash tore is no part of the set, and does not stay.
func TestOpenCleansBehindRecords(t *testing.T) {
	x := opened(t, 12, 8)
	is(t, x.add(tag(0)), api.OK)
	x.fuse(2)
	is(t, x.add(tag(1)), api.ErrDown)
	x.crash(30)
	is(t, x.open(8), api.OK)
	tells(t, x.s, 0, tag(0))
	if s, _ := x.d.Read(2); s != strings.Repeat("\x00", sectorLong) {
		t.Fatalf("the sector 2 is %q", s)
	}
	is(t, x.add(tag(1)), api.OK)
	tells(t, x.s, 0, tag(0), tag(1))
}

// TestLastEpochs: the last one has no next one.
func TestLastEpochs(t *testing.T) {
	for _, sectors := range []int{8, 9, 20} {
		x := newPair(t, sectors)
		x.lays(recordE(1<<31-2), recordT(tag(0)))
		is(t, x.open(8), api.OK)
		tells(t, x.s, 1<<31-2, tag(0))
		is(t, x.rotate(), api.OK)
		tells(t, x.s, 1<<31-1, tag(0))
		holds(t, x.d, 1, recordE(1<<31-2), recordT(tag(0)), recordE(1<<31-1))
		quiet(t, x.d, func() { is(t, x.s.Rotate(), api.ErrRange) })
		is(t, x.open(8), api.OK)
		tells(t, x.s, 1<<31-1, tag(0))
		is(t, x.rotate(), api.ErrRange)
		is(t, x.add(tag(0)), api.ErrSeen)
	}
	x := newPair(t, 20)
	x.lays(recordE(1<<31 - 1))
	is(t, x.open(8), api.OK)
	is(t, x.rotate(), api.ErrRange)
	is(t, x.add(tag(0)), api.OK)
	is(t, x.rotate(), api.ErrRange)
	tells(t, x.s, 1<<31-1, tag(0))
	x.lays(recordE(1<<31 - 1))
	is(t, x.open(8), api.OK)
	tells(t, x.s, 1<<31-1, tag(0))
}

// TestEndOfEpochs: what Open and Rotate answer at records of E next to 2^31 - 1, the last epoch, and of the greatest number that four bytes tell.
func TestEndOfEpochs(t *testing.T) {
	for _, x := range []struct {
		record       string
		open, rotate api.Errno
		epoch        int // behind Rotate
	}{
		{"E\x7f\xff\xff\xfd", api.OK, api.OK, 2147483646},
		{"E\x7f\xff\xff\xfe", api.OK, api.OK, 2147483647},
		{"E\x7f\xff\xff\xff", api.OK, api.ErrRange, 2147483647},
		{"E\x80\x00\x00\x00", api.ErrRot, 0, 0},
		{"E\x80\x00\x00\x01", api.ErrRot, 0, 0},
		{"E\xff\xff\xff\xfe", api.ErrRot, 0, 0},
		{"E\xff\xff\xff\xff", api.ErrRot, 0, 0},
	} {
		for _, sectors := range []int{8, 12, 13} {
			for _, most := range []int{1, 4, 4096} {
				d := newDisk(t, sectors)
				lay(t, d, x.record)
				if x.open != api.OK {
					quiet(t, d, func() { refuses(t, d, most, x.open) })
					holds(t, d, 1, x.record)
					continue
				}
				s, e := seen.Open(d, most)
				is(t, e, api.OK)
				is(t, s.Rotate(), x.rotate)
				tells(t, s, x.epoch)
			}
		}
	}
}

// TestEndOfEpochsOnTheSmallestDisk: one record finds room; what would be ErrSpace is not told where there is no next epoch.
func TestEndOfEpochsOnTheSmallestDisk(t *testing.T) {
	for epoch, want := range map[int]api.Errno{1<<31 - 2: api.ErrSpace, 1<<31 - 1: api.ErrRange} {
		x := newPair(t, 4)
		x.lays(recordE(epoch))
		is(t, x.open(1), api.OK)
		is(t, x.rotate(), want)
		tells(t, x.s, epoch)
	}
	for _, epoch := range []int{1 << 31, 1<<32 - 1} {
		x := newPair(t, 4)
		x.lays(recordE(epoch))
		is(t, x.open(1), api.ErrRot)
	}
}

// TestGreaterEpochs: a number above the last epoch is none, whatever stands ahead of it or behind it.
func TestGreaterEpochs(t *testing.T) {
	for _, epoch := range []int{1 << 31, 1<<31 + 1, 3 << 30, 1<<32 - 1<<24, 1<<32 - 2, 1<<32 - 1} {
		for _, records := range [][]string{
			{recordE(epoch)},
			{recordE(epoch), recordE(epoch)},
			{recordE(epoch), recordT(tag(0))},
			{recordE(epoch), recordE(1<<31 - 1)},
			{recordE(epoch), recordE(0)},
			{recordT(tag(0)), recordE(epoch)},
			{recordE(1), recordT(tag(0)), recordE(epoch)},
			{recordE(1<<31 - 1), recordE(epoch)},
			{recordE(1<<31 - 2), recordT(tag(0)), recordE(1<<31 - 1), recordT(tag(1)), recordE(epoch)},
			{recordE(epoch - 1), recordT(tag(0)), recordE(epoch)},
		} {
			opening{records: records}.isRotOn(t, 12, 13)
		}
	}
}

// Promise 17.2.

func TestExample(t *testing.T) {
	x := opened(t, 20, 4)
	is(t, x.add(tag(0)), api.OK)
	is(t, x.add(tag(0)), api.ErrSeen)
	is(t, x.rotate(), api.OK)
	is(t, x.rotate(), api.OK)
	is(t, x.add(tag(0)), api.OK)
	tells(t, x.s, 2, tag(0))
}

// TestTagsLastForTwoEpochs, those of the second one longer than those of the first.
func TestTagsLastForTwoEpochs(t *testing.T) {
	x := opened(t, 40, 8)
	is(t, x.add(tag(0)), api.OK)
	hasJust(t, x.s, tag(0), true)
	is(t, x.rotate(), api.OK)
	hasJust(t, x.s, tag(0), true)
	is(t, x.add(tag(0)), api.ErrSeen)
	is(t, x.add(tag(1)), api.OK)
	tells(t, x.s, 1, tag(0), tag(1))
	is(t, x.rotate(), api.OK)
	hasJust(t, x.s, tag(0), false)
	hasJust(t, x.s, tag(1), true)
	is(t, x.add(tag(1)), api.ErrSeen)
	is(t, x.add(tag(0)), api.OK)
	tells(t, x.s, 2, tag(1), tag(0))
	is(t, x.rotate(), api.OK)
	tells(t, x.s, 3, tag(0))
	is(t, x.rotate(), api.OK)
	tells(t, x.s, 4)
	hasJust(t, x.s, tag(0), false)
}

// TestSeenDoesNotLast: that a tag was refused as seen does not bring it into the epoch that is.
func TestSeenDoesNotLast(t *testing.T) {
	x := opened(t, 20, 8)
	is(t, x.add(tag(0)), api.OK)
	is(t, x.rotate(), api.OK)
	is(t, x.add(tag(0)), api.ErrSeen)
	is(t, x.rotate(), api.OK)
	hasJust(t, x.s, tag(0), false)
}

func TestTagsOfAllBytes(t *testing.T) {
	x := opened(t, 60, 20)
	for _, s := range someTags() {
		hasJust(t, x.s, s, false)
		is(t, x.add(s), api.OK)
		is(t, x.add(s), api.ErrSeen)
	}
	tells(t, x.s, 0, someTags()...)
	is(t, x.open(20), api.OK)
	tells(t, x.s, 0, someTags()...)
	is(t, x.rotate(), api.OK)
	is(t, x.open(20), api.OK)
	tells(t, x.s, 1, someTags()...)
	is(t, x.rotate(), api.OK)
	tells(t, x.s, 2)
}

// TestEachByteOfATag tells it from all others.
func TestEachByteOfATag(t *testing.T) {
	x := opened(t, 20, 20)
	is(t, x.add(tag(0)), api.OK)
	for i := range 16 {
		for _, by := range []byte{1, 0x20, 0x80, 0xff} {
			b := []byte(tag(0))
			b[i] ^= by
			hasJust(t, x.s, string(b), false)
		}
	}
}

// TestEachLength: a tag has 16 bytes.
func TestEachLength(t *testing.T) {
	for n := range 40 {
		x := opened(t, 20, 4)
		if n == 16 {
			is(t, x.add(long(n)), api.OK)
			hasJust(t, x.s, long(n), true)
			continue
		}
		is(t, x.add(long(n)), api.ErrForm)
		hasJust(t, x.s, long(n), false)
		is(t, x.add(long(16)), api.OK)
		hasJust(t, x.s, long(n), false)
		is(t, x.add(long(n)), api.ErrForm)
		quiet(t, x.d, func() { is(t, x.s.Add(long(n)), api.ErrForm) })
	}
}

// TestHasOfNoTag: what is a part of one, or holds one, is not there.
func TestHasOfNoTag(t *testing.T) {
	x := opened(t, 20, 4)
	is(t, x.add(long(16)), api.OK)
	is(t, x.rotate(), api.OK)
	is(t, x.add(strings.Repeat("y", 16)), api.OK)
	for _, n := range wrongLengths() {
		hasJust(t, x.s, long(n), false)
		hasJust(t, x.s, strings.Repeat("y", n), false)
	}
	hasJust(t, x.s, recordT(long(16)), false)
	hasJust(t, x.s, recordE(1), false)
}

// TestAddRefusesInOrder: the form, then whether it is there, then how many are, then what the log has room for.
func TestAddRefusesInOrder(t *testing.T) {
	x := opened(t, 12, 5) // room for five records: the set is full as the log is
	for k := range 2 {
		is(t, x.add(tag(k)), api.OK)
	}
	for _, n := range wrongLengths() {
		quiet(t, x.d, func() { is(t, x.s.Add(long(n)), api.ErrForm) })
		is(t, x.open(5), api.OK)
	}
	for k := 2; k < 5; k++ {
		is(t, x.add(tag(k)), api.OK)
	}
	quiet(t, x.d, func() {
		for _, n := range wrongLengths() {
			is(t, x.s.Add(long(n)), api.ErrForm)
		}
		for k := range 5 {
			is(t, x.s.Add(tag(k)), api.ErrSeen)
		}
		is(t, x.s.Add(tag(5)), api.ErrFull)
	})
	is(t, x.open(6), api.OK)
	quiet(t, x.d, func() {
		is(t, x.s.Add(""), api.ErrForm)
		is(t, x.s.Add(tag(0)), api.ErrSeen)
		is(t, x.s.Add(tag(5)), api.ErrSpace)
		is(t, x.s.Rotate(), api.ErrSpace)
		tells(t, x.s, 0, tags(0, 5)...)
	})
	is(t, x.open(6), api.OK)
	tells(t, x.s, 0, tags(0, 5)...)
}

// TestRefusedAheadOfTheDisk: what an argument, or the set, is refused for is told though a fuse would be through at the first write.
func TestRefusedAheadOfTheDisk(t *testing.T) {
	x := opened(t, 20, 2)
	is(t, x.add(tag(0)), api.OK)
	x.fuse(1)
	is(t, x.add("x"), api.ErrForm)
	is(t, x.add(tag(0)), api.ErrSeen)
	is(t, x.add(tag(1)), api.ErrDown)
	x.crash()
	is(t, x.open(2), api.OK)
	is(t, x.add(tag(1)), api.OK)
	x.fuse(1)
	is(t, x.add(tag(2)), api.ErrFull)
	is(t, x.rotate(), api.ErrDown)
	x.crash()
	x.lays(recordE(1<<31 - 1))
	is(t, x.open(2), api.OK)
	x.fuse(1)
	is(t, x.rotate(), api.ErrRange)
}

// TestJustMost: those of the epoch ahead are among those that are there.
func TestJustMost(t *testing.T) {
	for most := 1; most <= 9; most++ {
		for ahead := 0; ahead <= most; ahead++ {
			x := opened(t, 60, most)
			for k := range ahead {
				is(t, x.add(tag(k)), api.OK)
			}
			is(t, x.rotate(), api.OK)
			for k := ahead; k < most; k++ {
				is(t, x.add(tag(k)), api.OK)
			}
			tells(t, x.s, 1, tags(0, most)...)
			is(t, x.add(tag(most)), api.ErrFull)
			is(t, x.add(tag(0)), api.ErrSeen)
			is(t, x.rotate(), api.OK)
			tells(t, x.s, 2, tags(ahead, most)...)
			for k := most; k < most+ahead; k++ {
				is(t, x.add(tag(k)), api.OK)
			}
			is(t, x.add(tag(999)), api.ErrFull)
			tells(t, x.s, 2, tags(ahead, most+ahead)...)
		}
	}
}

// TestRecordsOfCalls: one for each that answers OK, none for any other.
func TestRecordsOfCalls(t *testing.T) {
	x := opened(t, 30, 3)
	is(t, x.add(tag(0)), api.OK)
	holds(t, x.d, 1, recordT(tag(0)))
	is(t, x.add(tag(0)), api.ErrSeen)
	is(t, x.add("x"), api.ErrForm)
	is(t, x.rotate(), api.OK)
	holds(t, x.d, 1, recordT(tag(0)), recordE(1))
	is(t, x.add(tag(2)), api.OK)
	is(t, x.add(tag(1)), api.OK)
	is(t, x.add(tag(3)), api.ErrFull)
	is(t, x.rotate(), api.OK)
	holds(t, x.d, 1, recordT(tag(0)), recordE(1), recordT(tag(2)), recordT(tag(1)), recordE(2))
	tells(t, x.s, 2, tag(2), tag(1))
	if x.d.Waits() != 0 {
		t.Fatal("something waits")
	}
}

// calls is what is done with a set: add and a tag's number, or rotate.
func (x *pair) calls(l ...int) {
	x.t.Helper()
	for _, k := range l {
		if k < 0 {
			is(x.t, x.rotate(), api.OK)
		} else {
			is(x.t, x.add(tag(k)), api.OK)
		}
	}
}

// shortening is records on a disk of 12 sectors, which has room for five, and what lies there once one more is written.
type shortening struct {
	name  string
	first []string
	call  int // -1: Rotate; else Add of that tag
	want  []string
	epoch int
	tags  []string
}

func shortenings() []shortening {
	e := recordE
	t := func(k int) string { return recordT(tag(k)) }
	return []shortening{
		{"tags ahead and here, Rotate", []string{t(9), e(1), t(0), e(2), t(1)}, -1, []string{e(1), t(0), e(2), t(1), e(3)}, 3, tags(1, 2)},
		{"tags ahead and here, Add", []string{t(9), e(1), t(0), e(2), t(1)}, 2, []string{e(1), t(0), e(2), t(1), t(2)}, 2, tags(0, 3)},
		{"tags ahead alone, Rotate", []string{t(9), e(1), t(1), t(0), e(2)}, -1, []string{e(1), t(1), t(0), e(2), e(3)}, 3, nil},
		{"tags ahead alone, Add", []string{t(9), e(1), t(1), t(0), e(2)}, 2, []string{e(1), t(1), t(0), e(2), t(2)}, 2, []string{tag(1), tag(0), tag(2)}},
		{"tags here alone, Rotate", []string{t(9), e(1), e(2), t(1), t(0)}, -1, []string{e(2), t(1), t(0), e(3)}, 3, []string{tag(1), tag(0)}},
		{"tags here alone, Add", []string{t(9), e(1), e(2), t(1), t(0)}, 2, []string{e(2), t(1), t(0), t(2)}, 2, []string{tag(1), tag(0), tag(2)}},
		{"no tag, Rotate", []string{t(9), e(1), e(2), e(3), e(4)}, -1, []string{e(4), e(5)}, 5, nil},
		{"no tag, Add", []string{t(9), e(1), e(2), e(3), e(4)}, 0, []string{e(4), t(0)}, 4, tags(0, 1)},
		{"no tag ever, Rotate", []string{e(1), e(2), e(3), e(4), e(5)}, -1, []string{e(5), e(6)}, 6, nil},
		{"the epoch 0, the same again, Rotate", []string{e(0), e(0), t(0), t(0), e(0)}, -1, []string{e(0), t(0), e(1)}, 1, tags(0, 1)},
		{"the epoch 0, the same again, Add", []string{t(0), t(1), t(0), t(0), t(1)}, 2, []string{e(0), t(0), t(1), t(2)}, 0, tags(0, 3)},
		{"the epoch 0, no tag, Add", []string{e(0), e(0), e(0), e(0), e(0)}, 2, []string{e(0), t(2)}, 0, tags(2, 3)},
		{"the epoch 0 is ahead, Add", []string{t(0), t(0), e(1), t(0), t(1)}, 2, []string{e(0), t(0), e(1), t(1), t(2)}, 1, tags(0, 3)},
		{"again in the next epoch", []string{e(5), t(0), t(1), e(6), t(0)}, 2, []string{e(5), t(0), t(1), e(6), t(2)}, 6, tags(0, 3)},
		{"a skip", []string{e(5), t(0), t(1), e(9), t(3)}, 2, []string{e(9), t(3), t(2)}, 9, []string{tag(3), tag(2)}},
		{"a skip, the next one", []string{e(5), t(0), e(9), t(3), e(10)}, 2, []string{e(9), t(3), e(10), t(2)}, 10, []string{tag(3), tag(2)}},
		{"a skip, Rotate", []string{e(5), t(0), e(900), t(3), e(902)}, -1, []string{e(902), e(903)}, 903, nil},
		{"two sectors of the greatest epochs", []string{e(1<<31 - 3), t(0), e(1<<31 - 2), e(1<<31 - 2), e(1<<31 - 2)}, -1, []string{e(1<<31 - 3), t(0), e(1<<31 - 2), e(1<<31 - 1)}, 1<<31 - 1, nil},
		{"there again, behind two epochs, Add", []string{t(0), e(1), e(2), t(0), e(3)}, 2, []string{e(2), t(0), e(3), t(2)}, 3, []string{tag(0), tag(2)}},
	}
}

// TestShortLog: a record that finds no room is appended behind the short log of the set as it was.
func TestShortLog(t *testing.T) {
	for _, x := range shortenings() {
		for _, sectors := range []int{12, 13} {
			y := newPair(t, sectors)
			y.lays(x.first...)
			is(t, y.open(8), api.OK)
			y.calls(x.call)
			l, _ := log.Open(y.d)
			if got := l.Records(); !slices.Equal(got, x.want) || l.Generation() != 2 {
				t.Fatalf("%s: the records are %q, generation %d; want %q", x.name, got, l.Generation(), x.want)
			}
			tells(t, y.s, x.epoch, x.tags...)
			y.crash()
			is(t, y.open(8), api.OK)
			tells(t, y.s, x.epoch, x.tags...)
		}
	}
}

// TestNoCompactionWhileThereIsRoom: the log goes on up to its last sector.
func TestNoCompactionWhileThereIsRoom(t *testing.T) {
	for _, sectors := range []int{4, 5, 12, 13, 40} {
		x := opened(t, sectors, 8)
		room := sectors/2 - 1
		for k := range room {
			x.calls(-1)
			l, _ := log.Open(x.d)
			if l.Generation() != 1 || len(l.Records()) != k+1 {
				t.Fatalf("%d sectors: %q, generation %d", sectors, l.Records(), l.Generation())
			}
		}
		if room < 2 {
			continue
		}
		x.calls(-1)
		holds(t, x.d, 2, recordE(room), recordE(room+1))
	}
}

// TestCompactionsGoOn: from half to half, again and again.
func TestCompactionsGoOn(t *testing.T) {
	x := opened(t, 14, 8) // room for six
	for k := range 200 {
		x.calls(k, -1)
		tells(t, x.s, k+1, tag(k))
		if k%7 == 3 {
			is(t, x.open(8), api.OK)
		}
	}
	l, _ := log.Open(x.d)
	if l.Generation() < 100 {
		t.Fatalf("generation %d", l.Generation())
	}
}

// TestNoRoomBehindTheShortLog: the log is compacted all the same, each time, and the set is as it was.
func TestNoRoomBehindTheShortLog(t *testing.T) {
	e := recordE
	r := func(k int) string { return recordT(tag(k)) }
	for _, x := range []struct {
		sectors int
		first   []string
		short   []string
		epoch   int
		tags    []string
	}{
		{4, []string{e(7)}, []string{e(7)}, 7, nil},
		{5, []string{e(0)}, []string{e(0)}, 0, nil},
		{6, []string{e(7), r(0)}, []string{e(7), r(0)}, 7, tags(0, 1)},
		{8, []string{e(6), r(0), e(7)}, []string{e(6), r(0), e(7)}, 7, tags(0, 1)},
		{12, []string{e(6), r(0), r(1), e(7), r(2)}, []string{e(6), r(0), r(1), e(7), r(2)}, 7, tags(0, 3)},
		{13, []string{e(7), r(0), r(1), r(2), r(3)}, []string{e(7), r(0), r(1), r(2), r(3)}, 7, tags(0, 4)},
		{12, []string{r(0), r(0), r(1), r(2), r(3)}, []string{e(0), r(0), r(1), r(2), r(3)}, 0, tags(0, 4)},
	} {
		y := newPair(t, x.sectors)
		y.lays(x.first...)
		is(t, y.open(8), api.OK)
		for n := range 6 {
			if n%2 == 0 {
				is(t, y.add(tag(9)), api.ErrSpace)
			} else {
				is(t, y.rotate(), api.ErrSpace)
			}
			holds(t, y.d, n+2, x.short...)
			tells(t, y.s, x.epoch, x.tags...)
			hasJust(t, y.s, tag(9), false)
			if y.d.Waits() != 0 {
				t.Fatal("something waits")
			}
			is(t, y.add("x"), api.ErrForm)
		}
		y.crash()
		is(t, y.open(8), api.OK)
		tells(t, y.s, x.epoch, x.tags...)
	}
}

// TestShortLogFindsNoRoom: the log is left alone then.
func TestShortLogFindsNoRoom(t *testing.T) {
	r := func(k int) string { return recordT(tag(k)) }
	for _, x := range []struct {
		sectors int
		first   []string
		epoch   int
		tags    []string
	}{
		{4, []string{r(0)}, 0, tags(0, 1)},
		{5, []string{r(0)}, 0, tags(0, 1)},
		{6, []string{r(0), r(1)}, 0, tags(0, 2)},
		{6, []string{r(0), recordE(1)}, 1, tags(0, 1)},
		{8, []string{r(0), recordE(1), r(1)}, 1, tags(0, 2)},
		{12, []string{r(0), r(1), r(2), r(3), r(4)}, 0, tags(0, 5)},
		{12, []string{r(0), r(1), recordE(1), r(2), r(3)}, 1, tags(0, 4)},
	} {
		y := newPair(t, x.sectors)
		y.lays(x.first...)
		for range 3 {
			is(t, y.open(8), api.OK)
			quiet(t, y.d, func() {
				is(t, y.s.Add(tag(9)), api.ErrSpace)
				is(t, y.s.Rotate(), api.ErrSpace)
				tells(t, y.s, x.epoch, x.tags...)
			})
			holds(t, y.d, 1, x.first...)
		}
	}
}

// TestSmallest: a disk of 4 sectors has room for one record.
func TestSmallest(t *testing.T) {
	for _, sectors := range []int{4, 5} {
		x := opened(t, sectors, 8)
		x.calls(0)
		is(t, x.add(tag(0)), api.ErrSeen)
		is(t, x.add(tag(1)), api.ErrSpace)
		is(t, x.rotate(), api.ErrSpace)
		tells(t, x.s, 0, tag(0))
		holds(t, x.d, 1, recordT(tag(0)))
		x = opened(t, sectors, 8)
		x.calls(-1)
		is(t, x.rotate(), api.ErrSpace)
		is(t, x.add(tag(0)), api.ErrSpace)
		tells(t, x.s, 1)
		holds(t, x.d, 3, recordE(1))
	}
}

// TestLastGeneration: a log that cannot be compacted any more tells that, and the set is as it was.
func TestLastGeneration(t *testing.T) {
	for generation, want := range map[int]api.Errno{1<<31 - 2: api.OK, 1<<31 - 1: api.ErrLong} {
		for _, call := range []int{-1, 0} {
			x := newPair(t, 8)
			for _, d := range []*disk.Disk{x.d, x.pd} {
				is(t, d.Write(4, head(generation)), api.OK)
				is(t, d.Sync(), api.OK)
			}
			x.lays(recordE(1), recordE(2), recordE(3))
			is(t, x.open(8), api.OK)
			tells(t, x.s, 3)
			if call < 0 {
				is(t, x.rotate(), want)
			} else {
				is(t, x.add(tag(call)), want)
			}
			if want == api.OK {
				continue
			}
			tells(t, x.s, 3)
			hasJust(t, x.s, tag(0), false)
			holds(t, x.d, generation, recordE(1), recordE(2), recordE(3))
			quiet(t, x.d, func() { is(t, x.s.Rotate(), api.ErrLong); is(t, x.s.Add(tag(0)), api.ErrLong) })
		}
	}
}

// TestInOrder: what is written and synced, of calls that find room, and of those that do not.
func TestInOrder(t *testing.T) {
	add := func(x *pair) api.Errno { return x.add(tag(9)) }
	rotate := (*pair).rotate
	for _, y := range []struct {
		name  string
		first []int // calls on a new disk of 12 sectors: the halves begin at 0 and 6
		call  func(x *pair) api.Errno
		want  string
	}{
		{"the first Add", nil, add, "w1 s"},
		{"the first Rotate", nil, rotate, "w1 s"},
		{"a later Add", []int{0, -1, 1}, add, "w4 s"},
		{"the last Rotate with room", []int{0, -1, 1, 2}, rotate, "w5 s"},
		{"a compaction, no tag, Rotate", []int{-1, -1, -1, -1, -1}, rotate, "w7 s w6 s w8 s"},
		{"a compaction, no tag, Add", []int{-1, -1, -1, -1, -1}, add, "w7 s w6 s w8 s"},
		{"a compaction, tags, Rotate", []int{0, -1, 1, -1, 2}, rotate, "w7 w8 w9 w10 s w6 s w11 s"},
		{"a compaction, tags, Add", []int{0, -1, 1, -1, 2}, add, "w7 w8 w9 w10 s w6 s w11 s"},
		{"behind a compaction, Add", []int{-1, -1, -1, -1, -1, -1}, add, "w9 s"},
		{"a compaction back to the first half", []int{-1, -1, -1, -1, -1, -1, -1, -1, -1}, rotate, "w0 w1 w2 w3 w4 w5 s w1 s w0 s w2 s"},
		{"no room behind the short log", []int{-1, 0, 1, 2, 3}, add, "w7 w8 w9 w10 w11 s w6 s"},
		{"no room behind the short log, Rotate", []int{-1, 0, 1, 2, 3}, rotate, "w7 w8 w9 w10 w11 s w6 s"},
	} {
		prepare := func() *pair {
			x := opened(t, 12, 8)
			x.calls(y.first...)
			return x
		}
		if got := trace(t, prepare, y.call); got != y.want {
			t.Errorf("%s: %s; want %s", y.name, got, y.want)
		}
	}
}

// TestGreatestDisk: as many tags as find room, and all of them told again.
func TestGreatestDisk(t *testing.T) {
	for _, sectors := range []int{sectorsMost - 1, sectorsMost} {
		room := sectors/2 - 1
		d := newDisk(t, sectors)
		s, e := seen.Open(d, 4096)
		is(t, e, api.OK)
		is(t, s.Rotate(), api.OK)
		for k := range room - 3 {
			is(t, s.Add(tag(k)), api.OK)
		}
		is(t, s.Rotate(), api.OK)
		is(t, s.Add(tag(9999)), api.OK)
		tells(t, s, 2, append(tags(0, room-3), tag(9999))...)
		is(t, s.Add(tag(10000)), api.ErrSpace)
		is(t, s.Rotate(), api.ErrSpace)
		is(t, s.Add(tag(0)), api.ErrSeen)
		s, e = seen.Open(d, 1)
		is(t, e, api.OK)
		tells(t, s, 2, append(tags(0, room-3), tag(9999))...)
	}
}

// TestCallsOfADiskThatRefuses: a fuse at each write and sync on the way is told as it is.
func TestCallsOfADiskThatRefuses(t *testing.T) {
	for _, first := range [][]int{nil, {0}, {0, -1, 1}, {-1, -1, -1, -1, -1}, {0, -1, 1, -1, 2}, {-1, 0, 1, 2, 3}} {
		for _, call := range []func(x *pair) api.Errno{func(x *pair) api.Errno { return x.add(tag(9)) }, (*pair).rotate} {
			refused := 0
			for n := 1; ; n++ {
				x := opened(t, 12, 8)
				x.calls(first...)
				x.fuse(n)
				if call(x) != api.ErrDown {
					break
				}
				refused++
				is(t, x.open(8), api.ErrDown)
			}
			if refused < 2 {
				t.Errorf("behind %v: %d writes and syncs", first, refused)
			}
		}
	}
}

// Promise 17.3.

// story is a set, and what must be there behind a crash.
type story struct {
	t    *testing.T
	d    *disk.Disk
	s    *seen.Set
	was  plainTags // behind all calls that answered OK
	will plainTags // with the one under way
}

// begins is a story of a set that is opened on a disk.
func begins(t *testing.T, d *disk.Disk) *story {
	t.Helper()
	s, e := seen.Open(d, 8)
	is(t, e, api.OK)
	l, e := log.Open(d) // which of the tags are of the epoch ahead, the records alone tell
	is(t, e, api.OK)
	was, ok := plainTags{}.behind(l.Records()...)
	if !ok {
		t.Fatalf("the records are %q", l.Records())
	}
	tells(t, s, was.epoch, was.there()...)
	return &story{t, d, s, was, was}
}

// does plays calls (-2: Open; -1: Rotate; else Add of that tag), up to the first at which the disk is down.
func (s *story) does(calls []int) (through bool) {
	s.t.Helper()
	for _, k := range calls {
		e := s.one(k)
		if e == api.ErrDown {
			return false
		}
		if e != api.OK && e != api.ErrSpace && e != api.ErrSeen && e != api.ErrFull {
			s.t.Fatalf("the call %d: error %d", k, e)
		}
	}
	return true
}

func (s *story) one(k int) (e api.Errno) {
	switch {
	case k == -2:
		s.s, e = seen.Open(s.d, 8)
	case k == -1:
		s.will = s.was.in(s.was.epoch + 1)
		e = s.s.Rotate()
	default:
		s.will = s.was.with(tag(k))
		e = s.s.Add(tag(k))
	}
	switch e {
	case api.OK:
		s.was = s.will
	case api.ErrDown:
	default:
		s.will = s.was
	}
	return e
}

// lasts fails unless a set that is opened behind a crash is what the promise says, and goes on from there: what it answers OK to is there behind the next crash.
func (s *story) lasts(picks []int) (behind string) {
	s.t.Helper()
	is(s.t, s.d.Crash(picks...), api.OK)
	now := begins(s.t, s.d)
	without, with := now.was.same(s.was), now.was.same(s.will)
	if !without && !with {
		s.t.Fatalf("picks %v: the epoch %d, tags %q; there was the epoch %d, tags %q; with the call under way %d, %q", picks, now.was.epoch, now.was.there(), s.was.epoch, s.was.there(), s.will.epoch, s.will.there())
	}
	now.does([]int{50, -1, 51})
	is(s.t, s.d.Crash(picks...), api.OK)
	then, e := seen.Open(s.d, 8)
	is(s.t, e, api.OK)
	tells(s.t, then, now.was.epoch, now.was.there()...)
	switch {
	case s.was.same(s.will):
		return "no call under way"
	case with:
		return "with"
	}
	return "without"
}

// manyPicks is picks of all kinds for so many writes that wait.
func manyPicks(by *rand.Rand, waits int) (l [][]int) {
	if waits == 0 {
		return [][]int{nil}
	}
	for _, p := range []int{0, 1, 2, 3, 8, 17, 18, 19, 22, 23, 24, 34, 35, 36, 63, 64, 65, 66} {
		l = append(l, slices.Repeat([]int{p}, waits))
	}
	for i := range waits { // one alone; all but one; a beginning, its last one torn
		one, but := make([]int, waits), slices.Repeat([]int{64}, waits)
		one[i], but[i] = 64, 0
		torn := append(slices.Repeat([]int{64}, i), 1+by.Intn(63))
		l = append(l, one, but, but[:i], torn)
	}
	for range 10 {
		drawn := make([]int, waits)
		for i := range drawn {
			drawn[i] = []int{0, 64, by.Intn(65), by.Intn(1000)}[by.Intn(4)]
		}
		l = append(l, drawn)
	}
	return l
}

// stories is calls that are played behind one another, on disks with room for five or six records.
func stories() map[string][]int {
	return map[string][]int{
		"adds":                         {0, 1, 2, 3},
		"rotates":                      {-1, -1, -1, -1, -1, -1, -1, -1, -1, -1, -1, -1},
		"adds and rotates":             {0, -1, 1, -1, 2, -1, 3, -1, 4, -1, 5, -1, 6},
		"the same again":               {0, 0, -1, 0, -1, 0, -1, 0, -1, 0, -1, 0, -1, 0},
		"two an epoch":                 {0, 1, -1, -1, 2, 3, -1, -1, 4, 5, -1, -1, 6, 7},
		"tags of the epoch ahead":      {-1, 0, 1, -1, -1, 2, 3, -1, -1, -1, 4, 5, -1, 6},
		"no room behind the short log": {-1, 0, 1, 2, 3, 4, 5, 6, -1, 7, -1},
		"no room for the short log":    {0, 1, 2, 3, 4, 5, 6, 7, -1, 8, -1},
		"opens":                        {0, -2, -1, -2, 1, -2, -1, -2, 2, -1, -2, 3, -1, 4, -2, -1, -1},
		"one tag, many epochs":         {0, -1, -1, -1, -1, -1, -1, -1, -1, -1, 0, -1, -1, -1, -1},
	}
}

// TestBehindCrashes: a fuse at each write and sync on the way, with picks of all kinds.
func TestBehindCrashes(t *testing.T) {
	behind := map[string]int{}
	for name, calls := range stories() {
		for _, sectors := range []int{12, 15} {
			by := rand.New(rand.NewSource(17))
			for n := 1; ; n++ {
				play := func() (*story, bool) {
					s := begins(t, newDisk(t, sectors))
					is(t, s.d.Fuse(n), api.OK)
					return s, s.does(calls)
				}
				s, through := play()
				for _, picks := range manyPicks(by, s.d.Waits()) {
					s, _ = play()
					behind[s.lasts(picks)]++
				}
				if through {
					break
				}
				if n > 1000 {
					t.Fatal(name, "does not end")
				}
			}
		}
	}
	if behind["no call under way"] < 10 || behind["with"] < 1000 || behind["without"] < 1000 {
		t.Errorf("behind crashes there were %v", behind)
	}
}

// TestCrashesOfOpen: what a crash left is opened, a fuse at each write and sync on the way, and crashes again.
func TestCrashesOfOpen(t *testing.T) {
	torn := 0
	for _, calls := range stories() {
		by := rand.New(rand.NewSource(18))
		for n, through := 1, false; !through; n++ {
			play := func() *story {
				s := begins(t, newDisk(t, 12))
				is(t, s.d.Fuse(n), api.OK)
				through = s.does(calls)
				return s
			}
			for _, first := range [][]int{{30}, {64, 1}, {64, 64, 64, 64, 30}, drawnPicks(by, play().d.Waits())} {
				torn += crashesOfOpen(t, by, func() *story {
					s := play()
					is(t, s.d.Crash(first...), api.OK)
					return s
				})
			}
		}
	}
	if torn < 100 {
		t.Errorf("only %d crashes were in Open", torn)
	}
}

// crashesOfOpen is how many writes and syncs Open has behind what is played, at each of which there were crashes.
func crashesOfOpen(t *testing.T, by *rand.Rand, play func() *story) int {
	t.Helper()
	for m := 1; ; m++ {
		open := func() (*story, api.Errno) {
			s := play()
			is(t, s.d.Fuse(m), api.OK)
			_, e := seen.Open(s.d, 8)
			return s, e
		}
		s, e := open()
		for _, picks := range manyPicks(by, s.d.Waits()) {
			s, _ = open()
			s.lasts(picks)
		}
		if e == api.OK {
			return m - 1
		}
		is(t, e, api.ErrDown)
	}
}

// TestCrashesOfTheFirstOpen: on a disk with all kinds of things on it, no log among them.
func TestCrashesOfTheFirstOpen(t *testing.T) {
	for seed := range int64(20) {
		by := rand.New(rand.NewSource(seed))
		for n, through := 1, false; !through; n++ {
			play := func() (*story, bool) {
				by := rand.New(rand.NewSource(seed))
				d := newDisk(t, 8+by.Intn(8))
				for i := range d.Size() {
					if by.Intn(2) == 0 {
						d.Write(i, drawnText(by, sectorLong))
					}
				}
				d.Sync()
				d.Fuse(n)
				_, e := seen.Open(d, 8)
				return &story{t: t, d: d}, e == api.OK
			}
			var s *story
			s, through = play()
			for _, picks := range manyPicks(by, s.d.Waits()) {
				s, _ = play()
				s.lasts(picks)
			}
		}
	}
}

// TestDrawnStories: crashes behind one another, each behind some calls.
func TestDrawnStories(t *testing.T) {
	behind := map[string]int{}
	for seed := range int64(1500) {
		by := rand.New(rand.NewSource(seed))
		d := newDisk(t, 6+by.Intn(20))
		for range 8 {
			s := begins(t, d)
			is(t, d.Fuse(by.Intn(30)), api.OK)
			var calls []int
			for range by.Intn(14) {
				calls = append(calls, []int{-2, -1, -1, by.Intn(6), by.Intn(6), by.Intn(30)}[by.Intn(6)])
			}
			s.does(calls)
			picks := manyPicks(by, d.Waits())
			behind[s.lasts(picks[by.Intn(len(picks))])]++
		}
	}
	for _, kind := range []string{"no call under way", "with", "without"} {
		if behind[kind] < 100 {
			t.Errorf("behind crashes there were %v", behind)
		}
	}
}

// Mixtures.

func drawnText(by *rand.Rand, long int) string {
	b := make([]byte, long)
	for i := range b {
		b[i] = byte(by.Intn(256))
	}
	return string(b)
}

func drawnPicks(by *rand.Rand, waits int) []int {
	l := make([]int, by.Intn(waits+3))
	for i := range l {
		l[i] = []int{0, 64, by.Intn(65), by.Intn(1 << 20)}[by.Intn(4)]
	}
	return l
}

// drawnTag is mostly one of few, now and then a new one, or one that may not be.
func drawnTag(by *rand.Rand) string {
	switch k := by.Intn(20); {
	case k == 0:
		return long(wrongLengths()[by.Intn(len(wrongLengths()))])
	case k < 4:
		return drawnText(by, 16)
	case k < 8:
		return someTags()[by.Intn(len(someTags()))]
	}
	return tag(by.Intn(8))
}

func drawnMost(by *rand.Rand) int {
	if by.Intn(10) == 0 {
		return wrongMosts()[by.Intn(len(wrongMosts()))]
	}
	return []int{1, 2, 3, 4, 6, 8, 20, 4096}[by.Intn(8)]
}

// drawnRecord is mostly one that may be behind what there is.
func drawnRecord(by *rand.Rand, epoch int) string {
	switch k := by.Intn(30); {
	case k == 0:
		return drawnText(by, 1+by.Intn(20))
	case k == 1:
		return recordE(max(0, epoch-1))
	case k < 10:
		return recordE(epoch + by.Intn(4))
	}
	return recordT(tag(by.Intn(8)))
}

// plays one drawn call.
func (x *pair) plays(by *rand.Rand) (call string, e api.Errno) {
	x.t.Helper()
	if x.down && by.Intn(4) > 0 {
		x.crash(drawnPicks(by, x.d.Waits())...)
		return "crash", api.OK
	}
	if x.down || x.s == nil {
		return "open", x.open(drawnMost(by))
	}
	switch k := by.Intn(60); {
	case k < 32:
		return "add", x.add(drawnTag(by))
	case k < 44:
		return "rotate", x.rotate()
	case k < 48:
		return "open", x.open(drawnMost(by))
	case k < 52:
		x.fuse(by.Intn(24))
		return "fuse", api.OK
	case k < 56:
		x.crash(drawnPicks(by, x.d.Waits())...)
		return "crash", api.OK
	case k < 58:
		hasJust(x.t, x.s, drawnText(by, by.Intn(18)), false)
		return "has", api.OK
	}
	return "lay", x.laysOne(drawnRecord(by, x.p.epoch))
}

// laysOne appends one record by logs alone, if it finds room, ahead of any fuse.
func (x *pair) laysOne(record string) api.Errno {
	x.t.Helper()
	x.fuse(0)
	l, e := log.Open(x.d)
	is(x.t, e, api.OK)
	if l.Room() == 0 {
		return api.ErrSpace
	}
	x.lays(record)
	return api.OK
}

// TestAsPlain: each answer, the tags, the epoch and each sector are those of a plain set.
func TestAsPlain(t *testing.T) {
	told := map[string]map[api.Errno]int{"add": {}, "rotate": {}, "open": {}, "fuse": {}, "crash": {}, "has": {}, "lay": {}}
	for seed := range int64(900) {
		by := rand.New(rand.NewSource(seed))
		sizes := []int{4, 5, 6, 7, 8, 9, 10, 11, 12, 13, 14, 16, 19, 20, 21, 26, 33, 40, 64, 65}
		x := newPair(t, sizes[int(seed)%len(sizes)])
		for range 150 {
			call, e := x.plays(by)
			told[call][e]++
			if call == "open" && e == api.ErrRot { // nothing mends that
				break
			}
		}
	}
	for call, want := range map[string][]api.Errno{"add": {api.OK, api.ErrForm, api.ErrSeen, api.ErrFull, api.ErrSpace, api.ErrDown}, "rotate": {api.OK, api.ErrSpace, api.ErrDown}, "open": {api.OK, api.ErrRange, api.ErrDown, api.ErrRot}} {
		for _, e := range want {
			if told[call][e] < 50 {
				t.Errorf("%s told the error %d %d times: too few", call, e, told[call][e])
			}
		}
		if len(told[call]) != len(want) {
			t.Errorf("%s told %v", call, told[call])
		}
	}
}

// TestShortPlays: all plays of five calls of these, of which some need a set that there is, on disks with room for three and for four records.
func TestShortPlays(t *testing.T) {
	asks := func(call func(x *pair)) func(x *pair) {
		return func(x *pair) {
			if x.s != nil {
				call(x)
			}
		}
	}
	calls := []func(x *pair){
		asks(func(x *pair) { x.add(tag(0)) }),
		asks(func(x *pair) { x.add(tag(1)) }),
		asks(func(x *pair) { x.rotate() }),
		asks(func(x *pair) {
			if x.rotate() != api.ErrDown {
				x.add(tag(2))
			}
		}),
		func(x *pair) {
			if !x.down {
				x.fuse(4)
			}
		},
		func(x *pair) { x.crash(64, 23, 64); x.open(3) },
		func(x *pair) { x.open(2) },
	}
	many := 1
	for range 5 {
		many *= len(calls)
	}
	for play := range many {
		for _, sectors := range []int{8, 11} {
			x := opened(t, sectors, 3)
			for n, k := play, 0; k < 5; n, k = n/len(calls), k+1 {
				calls[n%len(calls)](x)
			}
		}
	}
}

// TestDrawnRecords: a set of what a log alone appended, and what it then does.
func TestDrawnRecords(t *testing.T) {
	told := map[api.Errno]int{}
	for seed := range int64(2000) {
		by := rand.New(rand.NewSource(seed))
		x := newPair(t, 8+by.Intn(60))
		epoch := []int{0, 1, 2, 1<<31 - 12, 1<<31 - 4}[by.Intn(5)]
		var records []string
		for range by.Intn(x.d.Size()/2 - 1) {
			if by.Intn(4) == 0 {
				epoch += by.Intn(3)
			}
			records = append(records, drawnRecord(by, epoch))
		}
		x.lays(records...)
		e := x.open(1 + by.Intn(8))
		told[e]++
		if e != api.OK {
			continue
		}
		for range 12 {
			if by.Intn(3) == 0 {
				x.rotate()
			} else {
				x.add(drawnTag(by))
			}
		}
	}
	if told[api.OK] < 300 || told[api.ErrRot] < 300 || len(told) != 2 {
		t.Errorf("Open told %v", told)
	}
}

// Rules that hold everywhere.

// TestRefusedCallsChangeNothing plays the same calls with two sets, one of them with refused ones between.
func TestRefusedCallsChangeNothing(t *testing.T) {
	for seed := range int64(80) {
		by := rand.New(rand.NewSource(seed))
		size := 8 + by.Intn(20)
		calm, x := newPair(t, size), newPair(t, size)
		for range 60 {
			if x.s != nil {
				for _, n := range []int{0, 15, 17} {
					is(t, x.s.Add(long(n)), api.ErrForm)
				}
				for _, there := range x.p.there() {
					is(t, x.s.Add(there), api.ErrSeen)
				}
				if len(x.p.there()) >= x.p.most {
					is(t, x.s.Add(drawnText(by, 16)), api.ErrFull)
				}
				refuses(t, x.d, 0, api.ErrRange)
				refuses(t, x.d, 4097, api.ErrRange)
				x.looks()
			}
			play := by.Int63()
			calm.plays(rand.New(rand.NewSource(play)))
			x.plays(rand.New(rand.NewSource(play)))
			if (calm.s == nil) != (x.s == nil) {
				t.Fatal("one has a set, the other none")
			}
			if x.s != nil {
				tells(t, x.s, calm.s.Epoch(), calm.s.Tags()...)
			}
			if !x.down && !slices.Equal(read(t, x.d), read(t, calm.d)) {
				t.Fatal("the disks are not the same")
			}
		}
	}
}

// TestAsksChangeNothing: neither the set nor the disk.
func TestAsksChangeNothing(t *testing.T) {
	x := opened(t, 20, 4)
	x.calls(0, -1, 1)
	quiet(t, x.d, func() {
		for range 10 {
			tells(t, x.s, 1, tag(0), tag(1))
			hasJust(t, x.s, tag(2), false)
			hasJust(t, x.s, "", false)
		}
	})
}

// TestTagsAreNew: what is answered may be changed, its spare room too.
func TestTagsAreNew(t *testing.T) {
	x := opened(t, 80, 40)
	for i := range 20 {
		x.calls(i)
		if i%6 == 5 {
			x.calls(-1)
		}
		first, second := x.s.Tags(), x.s.Tags()
		was := slices.Clone(second)
		for k := range first {
			first[k] = "changed"
		}
		_ = append(first, "spare")
		first = first[:cap(first)]
		for k := range first {
			first[k] = "spare"
		}
		if !slices.Equal(second, was) {
			t.Fatalf("another answer became %q", second)
		}
		x.looks()
		slices.Reverse(second)
		x.looks()
	}
}

// TestNothingIsShared: tags are written over once they were handed in or answered, as no program of the language could; the set and the disk have them still.
func TestNothingIsShared(t *testing.T) {
	spoil := func(s string) {
		b := unsafe.Slice(unsafe.StringData(s), len(s))
		for i := range b {
			b[i] = '?'
		}
	}
	x := opened(t, 24, 40)
	for k := range 60 {
		given, kept := strings.Clone(tag(k)), strings.Clone(tag(k))
		if e := x.p.add(kept); e == api.OK {
			is(t, x.s.Add(given), api.OK)
		} else {
			is(t, x.s.Add(given), e)
		}
		spoil(given)
		x.looks()
		if k%3 == 2 {
			x.rotate()
		}
		if k%7 == 6 {
			x.open(40)
		}
		first, second := x.s.Tags(), x.s.Tags()
		for _, s := range first {
			spoil(s)
		}
		if !slices.Equal(second, x.p.there()) {
			t.Fatalf("another answer became %q", second)
		}
		for _, s := range second {
			spoil(s)
		}
		x.looks()
	}
}

// TestSetOfADiskThatWasDown: a set whose disk was down, or crashed, is not to be asked; its calls end all the same.
func TestSetOfADiskThatWasDown(t *testing.T) {
	for n := range 16 {
		for _, crashed := range []bool{false, true} {
			x := opened(t, 12, 6)
			x.calls(0, -1, 1, -1)
			s := x.s
			x.fuse(n)
			for k := range 6 {
				s.Add(tag(k))
				s.Rotate()
				if crashed {
					x.d.Crash(7, 64)
				}
				s.Has(tag(k))
				s.Tags()
				s.Epoch()
				s.Add("")
			}
		}
	}
}

// TestSetsDoNotKnowOfOneAnother: neither of tags nor of epochs nor of what befalls disks.
func TestSetsDoNotKnowOfOneAnother(t *testing.T) {
	a, b := opened(t, 20, 4), opened(t, 20, 4)
	a.calls(0)
	hasJust(t, b.s, tag(0), false)
	tells(t, b.s, 0)
	b.calls(-1, 0, -1)
	tells(t, a.s, 0, tag(0))
	a.fuse(1)
	is(t, b.add(tag(1)), api.OK)
	is(t, a.add(tag(1)), api.ErrDown)
	tells(t, b.s, 2, tag(0), tag(1))
	a.crash()
	is(t, b.rotate(), api.OK)
	tells(t, b.s, 3, tag(1))
	by := rand.New(rand.NewSource(17))
	l := []*pair{newPair(t, 6), newPair(t, 12), newPair(t, 12)}
	for range 2000 {
		k := by.Intn(len(l))
		if call, e := l[k].plays(by); call == "open" && e == api.ErrRot {
			l[k] = newPair(t, 12)
		}
		for _, other := range l {
			other.looks()
		}
	}
}

// TestSameCallsTellTheSame, again and again, and at the same time.
func TestSameCallsTellTheSame(t *testing.T) {
	play := func() string {
		by := rand.New(rand.NewSource(4))
		d, _ := disk.New(20)
		s, _ := seen.Open(d, 6)
		var said strings.Builder
		for range 400 {
			var e api.Errno
			switch by.Intn(8) {
			case 0, 1:
				e = s.Rotate()
			case 2:
				d.Fuse(by.Intn(9))
			case 3:
				d.Crash(drawnPicks(by, d.Waits())...)
				s, e = seen.Open(d, 6)
			default:
				e = s.Add(drawnTag(by))
			}
			if e == api.ErrDown {
				d.Crash(drawnPicks(by, d.Waits())...)
				s, e = seen.Open(d, 6)
			}
			fmt.Fprintf(&said, "%d %d %x %d\n", e, s.Epoch(), s.Tags(), d.Waits())
			for i := range d.Size() {
				s, e := d.Read(i)
				fmt.Fprintf(&said, "%x %d\n", s, e)
			}
		}
		return said.String()
	}
	want := play()
	var everyone sync.WaitGroup
	said := make([]string, 8)
	for k := range said {
		everyone.Go(func() { said[k] = play() })
	}
	everyone.Wait()
	for _, s := range said {
		if s != want {
			t.Fatal("another answer")
		}
	}
}
