package boxes_test

import (
	"fmt"
	"math"
	"slices"
	"strings"
	"testing"

	"dovecote/api"
	"dovecote/boxes"
	"dovecote/disk"
	"dovecote/log"
)

const (
	sectorLong  = 64
	sectorsMost = 1024
)

// id is one of as many as one likes.
func id(k int) string { return fmt.Sprintf("id %13d", k) }

func ids(from, to int) (l []string) {
	for k := from; k < to; k++ {
		l = append(l, id(k))
	}
	return l
}

// long is a text of n bytes.
func long(n int) string { return strings.Repeat("x", n) }

// someIds is ids whose bytes are of all kinds, those of records among them.
func someIds() []string {
	return []string{
		strings.Repeat("\xff", 16), strings.Repeat("\x00", 15) + "\x01", "\x01" + strings.Repeat("\x00", 15), strings.Repeat("\x00", 8) + "\x80" + strings.Repeat("\x00", 7),
		strings.Repeat("P", 16), strings.Repeat("A", 16), strings.Repeat("0", 16), strings.Repeat(" ", 16), long(15) + "\x00", "\x00" + long(15),
		"\xc3\x28\xf0\x90\x28\xbc\xff\xfe\x80\x80\x80\x80\x80\x80\x80\x80",
	}
}

// wrongIds is texts that are no id.
func wrongIds() []string {
	return []string{"", noId, "x", long(15), long(17), noId[:15], noId + "\x00", noId + "x", "x" + noId, long(32), long(256), strings.Repeat("\x00", 1<<16)}
}

// wrongUsers is numbers of no user.
func wrongUsers() []int {
	return []int{-1, -2, -63, -64, -256, 64, 65, 127, 128, 255, 256, 257, 1 << 16, 1 << 32, 1<<32 + 1, -1 << 32, math.MaxInt, math.MinInt}
}

// wrongQuotas is numbers that quota may not be; wrongManys those that First may not be asked for.
func wrongQuotas() []int { return append(wrongManys(), 0) }

func wrongManys() []int {
	return []int{-1, -2, -256, 257, 258, 512, 1 << 16, 1 << 32, 1<<32 + 1, -1 << 32, math.MaxInt, math.MinInt}
}

// read is all sectors of a disk that is up.
func read(t *testing.T, d *disk.Disk) (l []string) {
	t.Helper()
	for i := range d.Size() {
		s, e := d.Read(i)
		is(t, e, api.OK)
		l = append(l, s)
	}
	return l
}

// takeDown leaves a disk that is down.
func takeDown(t *testing.T, d *disk.Disk) {
	t.Helper()
	is(t, d.Fuse(1), api.OK)
	is(t, d.Sync(), api.ErrDown)
}

// quiet fails unless a call neither writes nor syncs: a fuse of 1 is not through.
func quiet(t *testing.T, d *disk.Disk, call func()) {
	t.Helper()
	was := read(t, d)
	if d.Waits() != 0 {
		t.Fatal("something waits already")
	}
	is(t, d.Fuse(1), api.OK)
	call()
	if d.Waits() != 0 || !slices.Equal(read(t, d), was) {
		t.Fatal("the disk was written")
	}
	is(t, d.Sync(), api.ErrDown)
	is(t, d.Crash(), api.OK)
}

// trace is what a call writes and syncs, found by fuses: w and a sector's number, or s. The pairs that prepare makes are alike.
func trace(t *testing.T, prepare func() *pair, call func(x *pair) api.Errno) string {
	t.Helper()
	var does []string
	x := prepare()
	before, waited := read(t, x.d), x.d.Waits()
	for n := 2; ; n++ {
		x := prepare()
		x.fuse(n)
		e := call(x)
		waits := x.d.Waits()
		is(t, x.d.Crash(slices.Repeat([]int{64}, waits)...), api.OK)
		now := read(t, x.d)
		if waits == waited+1 {
			does = append(does, "w"+changed(before, now))
		} else if waits == 0 && slices.Equal(before, now) {
			does = append(does, "s")
		} else {
			t.Fatalf("behind %v: %d writes wait, there were %d", does, waits, waited)
		}
		if e != api.ErrDown {
			return strings.Join(does, " ")
		}
		before, waited = now, waits
	}
}

// changed is the numbers of sectors that are not the same.
func changed(before, now []string) (s string) {
	for i := range now {
		if before[i] != now[i] {
			s += fmt.Sprint(i)
		}
	}
	return s
}

// refuses fails unless Open answers an error, and no boxes beside it.
func refuses(t *testing.T, d *disk.Disk, quota int, want api.Errno) {
	t.Helper()
	if b, e := boxes.Open(d, quota); b != nil || e != want {
		t.Fatalf("Open(.., %d): boxes %t, error %d; want %d", quota, b != nil, e, want)
	}
}

// acks fails unless Ack answers this number, and OK.
func (x *pair) acks(want, user int, ids ...string) {
	x.t.Helper()
	if n, e := x.ack(user, ids...); n != want || e != api.OK {
		x.t.Fatalf("Ack(%d, %q): %d, error %d; want %d", user, ids, n, e, want)
	}
}

// puts lets entries of these ids wait for a user, each with the text of its number.
func (x *pair) puts(user int, numbers ...int) {
	x.t.Helper()
	for _, k := range numbers {
		is(x.t, x.put(user, id(k), fmt.Sprint(k)), api.OK)
	}
}

// hasJust fails unless a box has entries of these ids, in this order.
func (x *pair) hasJust(user int, numbers ...int) {
	x.t.Helper()
	l, e := x.first(user, 256)
	is(x.t, e, api.OK)
	var got []string
	for _, s := range l {
		got = append(got, s.Id)
	}
	var want []string
	for _, k := range numbers {
		want = append(want, id(k))
	}
	if !slices.Equal(got, want) {
		x.t.Fatalf("the box %d has %q; want %q", user, got, want)
	}
}

// Promise 18.1.

func TestOpenOfANewDisk(t *testing.T) {
	for _, sectors := range []int{4, 5, 6, 7, 8, 9, 20, 63, 64, 65, 127, 128, 511, 512, 1000, 1023, 1024} {
		x := opened(t, sectors, 4)
		tells(t, x.b, nil)
		holds(t, x.d, 1)
		x.crash()
		is(t, x.open(4), api.OK)
		tells(t, x.b, nil)
		is(t, x.put(5, id(0), "hi"), api.OK)
		holds(t, x.d, 1, recordP(5, id(0), "hi"))
		x.crash()
		is(t, x.open(4), api.OK)
		tells(t, x.b, plainEntries{{5, id(0), "hi"}})
	}
}

// TestSectorsByHand: heads and records whose marks were reckoned by another program.
func TestSectorsByHand(t *testing.T) {
	const a, b = "afifteen bytes !", "bfifteen bytes !"
	d := newDisk(t, 10)
	x, e := boxes.Open(d, 4)
	is(t, e, api.OK)
	is(t, x.Put(63, a, "hi"), api.OK)
	is(t, x.Put(1, a, ""), api.OK)
	if n, e := x.Ack(63, a); n != 1 || e != api.OK {
		t.Fatalf("Ack: %d, error %d", n, e)
	}
	is(t, x.Put(0, b, "x"), api.OK)
	is(t, x.Put(1, b, "y"), api.OK)
	for i, want := range []string{
		"4c4f470000000001" + "94977d9c7d595a68700222c6e1130f41",
		"0014" + "42767f1878f06d79ed7ca919b1fe6a2d" + "503f616669667465656e20627974657320216869",
		"0012" + "7f5fae75f8608674fc810ba5f568383a" + "5001616669667465656e2062797465732021",
		"0012" + "1af2bfcf773e66c226294594a86d832d" + "413f616669667465656e2062797465732021",
		"0013" + "1f97babdc691940db302cc0699718208" + "5000626669667465656e206279746573202178",
		"4c4f470000000002" + "9ec12b0e14bc181620c3b8da971b6ad2",
		"0013" + "31afde50f52a221dab7c94e9f40843bc" + "5000626669667465656e206279746573202178",
		"0012" + "97273aec56ad6a77d20beeea8b6236de" + "5001616669667465656e2062797465732021",
		"0013" + "6d3efa7f41d3a984365f1999dfb421c1" + "5001626669667465656e206279746573202179",
		"",
	} {
		if s, _ := d.Read(i); fmt.Sprintf("%x", s) != want+strings.Repeat("0", 128-len(want)) {
			t.Errorf("the sector %d: %x", i, s)
		}
	}
	if d.Waits() != 0 {
		t.Error("something waits")
	}
}

func TestQuotaMayBe(t *testing.T) {
	for _, quota := range []int{1, 2, 3, 127, 128, 255, 256} {
		x := opened(t, 20, quota)
		for k := range min(quota, 5) {
			is(t, x.put(3, id(k), ""), api.OK)
		}
	}
}

// TestQuotaMayNotBe: ErrRange is named first, so that it is told beside all else that is wrong, and the disk is left alone.
func TestQuotaMayNotBe(t *testing.T) {
	for _, quota := range wrongQuotas() {
		refuses(t, nil, quota, api.ErrRange)
		down := newDisk(t, 20)
		takeDown(t, down)
		refuses(t, down, quota, api.ErrRange)
		rot := newDisk(t, 20)
		lay(t, rot, "rot")
		right := newDisk(t, 20)
		lay(t, right, recordP(0, id(0), ""))
		dirty := newDisk(t, 20)
		is(t, dirty.Write(3, long(sectorLong)), api.OK)
		is(t, dirty.Sync(), api.OK)
		for _, d := range []*disk.Disk{newDisk(t, 1), newDisk(t, 3), newDisk(t, 4), newDisk(t, 20), rot, right, dirty} {
			quiet(t, d, func() { refuses(t, d, quota, api.ErrRange) })
		}
	}
}

func TestOpenRefusesWhatTheLogRefuses(t *testing.T) {
	for _, quota := range []int{1, 2, 256} {
		refuses(t, nil, quota, api.ErrNone)
		for _, sectors := range []int{1, 2, 3} {
			d := newDisk(t, sectors)
			quiet(t, d, func() { refuses(t, d, quota, api.ErrShape) })
		}
		for _, sectors := range []int{4, 5, 20, 1024} {
			d := newDisk(t, sectors)
			takeDown(t, d)
			refuses(t, d, quota, api.ErrDown)
			refuses(t, d, quota, api.ErrDown)
			is(t, d.Crash(), api.OK)
			b, e := boxes.Open(d, quota)
			is(t, e, api.OK)
			tells(t, b, nil)
		}
		rot := newDisk(t, 20)
		lay(t, rot, "rot")
		takeDown(t, rot)
		refuses(t, rot, quota, api.ErrDown)
	}
}

// TestOpenOfADiskThatRefuses: a fuse at each write and sync of the log's own opening.
func TestOpenOfADiskThatRefuses(t *testing.T) {
	for name, prepare := range map[string]func(x *pair){
		"a new disk": func(x *pair) {},
		"no log": func(x *pair) {
			for i := range 6 {
				x.writes(i, long(sectorLong))
			}
		},
		"torn behind the records": func(x *pair) {
			x.lays(recordP(1, id(0), ""), recordP(1, id(1), ""), recordA(1, id(0)))
			x.writes(4, long(sectorLong))
			x.writes(5, long(sectorLong))
		},
		"torn behind a record that may not be": func(x *pair) {
			x.lays("rot")
			x.writes(4, long(sectorLong))
		},
	} {
		refused := 0
		for n := 1; ; n++ {
			x := newPair(t, 12)
			prepare(x)
			x.fuse(n)
			if e := x.open(4); e != api.ErrDown {
				break
			}
			refused++
			x.crash(7, 64, 0, 64)
			x.open(4)
		}
		if refused < 2 {
			t.Errorf("%s: %d writes and syncs", name, refused)
		}
	}
}

// opening is records, and what boxes have that are opened on them.
type opening struct {
	name    string
	records []string
	has     plainEntries
}

func rightOpenings() []opening {
	p, a := recordP, recordA
	one, two, three := id(1), id(2), id(3)
	return []opening{
		{"none", nil, nil},
		{"an entry", []string{p(1, one, "hi")}, plainEntries{{1, one, "hi"}}},
		{"an entry without a text", []string{p(1, one, "")}, plainEntries{{1, one, ""}}},
		{"an entry of the longest text", []string{p(1, one, long(222))}, plainEntries{{1, one, long(222)}}},
		{"an entry of the first user", []string{p(0, one, "hi")}, plainEntries{{0, one, "hi"}}},
		{"an entry of the last user", []string{p(63, one, "hi")}, plainEntries{{63, one, "hi"}}},
		{"entries as they were put", []string{p(1, three, "c"), p(1, one, "a"), p(1, two, "b")}, plainEntries{{1, three, "c"}, {1, one, "a"}, {1, two, "b"}}},
		{"an id of bytes 0 but one", []string{p(1, noId[:15]+"\x01", "")}, plainEntries{{1, noId[:15] + "\x01", ""}}},
		{"the same text again", []string{p(1, one, "a"), p(1, two, "a")}, plainEntries{{1, one, "a"}, {1, two, "a"}}},
		{"the same id in another box", []string{p(1, one, "a"), p(2, one, "b")}, plainEntries{{1, one, "a"}, {2, one, "b"}}},
		{"the same id in three boxes, taken away in one", []string{p(1, one, "a"), p(2, one, "b"), p(0, one, "c"), a(2, one)}, plainEntries{{1, one, "a"}, {0, one, "c"}}},
		{"taken away", []string{p(1, one, "hi"), a(1, one)}, nil},
		{"the first one taken away", []string{p(1, one, "a"), p(1, two, "b"), p(1, three, "c"), a(1, one)}, plainEntries{{1, two, "b"}, {1, three, "c"}}},
		{"one in the middle taken away", []string{p(1, one, "a"), p(1, two, "b"), p(1, three, "c"), a(1, two)}, plainEntries{{1, one, "a"}, {1, three, "c"}}},
		{"the last one taken away", []string{p(1, one, "a"), p(1, two, "b"), p(1, three, "c"), a(1, three)}, plainEntries{{1, one, "a"}, {1, two, "b"}}},
		{"put again", []string{p(1, one, "a"), a(1, one), p(1, one, "b")}, plainEntries{{1, one, "b"}}},
		{"put again behind another", []string{p(1, one, "a"), p(1, two, "b"), a(1, one), p(1, one, "c")}, plainEntries{{1, two, "b"}, {1, one, "c"}}},
		{"put again, and taken away again", []string{p(1, one, "a"), a(1, one), p(1, one, "b"), a(1, one)}, nil},
		{"a text that looks like a record", []string{p(1, one, a(1, one)), p(2, two, p(2, two, "x"))}, plainEntries{{1, one, a(1, one)}, {2, two, p(2, two, "x")}}},
		{"a text of bytes 0", []string{p(1, one, noId)}, plainEntries{{1, one, noId}}},
		{"many users", []string{p(9, one, ""), p(8, one, ""), p(9, two, ""), p(7, one, ""), p(8, two, "")}, plainEntries{{7, one, ""}, {8, one, ""}, {8, two, ""}, {9, one, ""}, {9, two, ""}}},
	}
}

func wrongOpenings() (l []opening) {
	p, a := recordP, recordA
	one, two := id(1), id(2)
	for name, records := range map[string][]string{
		"P alone":                               {"P"},
		"A alone":                               {"A"},
		"P with a user alone":                   {"P\x01"},
		"A with a user alone":                   {p(1, one, ""), "A\x01"},
		"P with 15 bytes of an id":              {p(1, one, "")[:17]},
		"A with 15 bytes of an id":              {p(1, one, ""), a(1, one)[:17]},
		"A with a byte behind":                  {p(1, one, ""), a(1, one) + "x"},
		"A with a byte 0 behind":                {p(1, one, ""), a(1, one) + "\x00"},
		"A with its text behind":                {p(1, one, "hi"), a(1, one) + "hi"},
		"A with a long text behind":             {p(1, one, ""), a(1, one) + long(222)},
		"P of a text that is too long":          {p(1, one, long(223))},
		"P of a far longer text":                {p(1, one, long(900))},
		"P of the user 64":                      {p(64, one, "")},
		"P of the user 255":                     {p(255, one, "")},
		"A of the user 64":                      {p(0, one, ""), a(64, one)},
		"A of the user 255":                     {p(63, one, ""), a(255, one)},
		"P of no id":                            {p(1, noId, "")},
		"P of no id, with a text":               {p(1, noId, "hi")},
		"A of no id":                            {a(1, noId)},
		"A of no id, where there are some":      {p(1, one, ""), a(1, noId)},
		"P of an id that is there":              {p(1, one, ""), p(1, one, "")},
		"P of an id that is there, a new text":  {p(1, one, "a"), p(1, one, "b")},
		"P of an id that is there, and another": {p(1, one, ""), p(1, two, ""), p(2, one, ""), p(1, one, "")},
		"P of an id that is there once more":    {p(1, one, ""), a(1, one), p(1, one, ""), p(1, one, "")},
		"A of an id that is not there":          {a(1, one)},
		"A of an id that another user has":      {p(2, one, ""), a(1, one)},
		"A of an id where another one is":       {p(1, two, ""), a(1, one)},
		"A of an id ahead of its P":             {a(1, one), p(1, one, "")},
		"A of an id twice":                      {p(1, one, ""), a(1, one), a(1, one)},
		"an id alone":                           {one},
		"a user and an id":                      {"\x01" + one},
		"another first byte":                    {"X\x01" + one},
		"small letters":                         {"p\x01" + one},
		"small letters, a":                      {p(1, one, ""), "a\x01" + one},
		"T of layer 17":                         {"T" + one},
		"one byte":                              {"x"},
		"one byte 0":                            {"\x00"},
		"long":                                  {long(300)},
		"behind an entry":                       {p(1, one, ""), "x"},
		"ahead of an entry":                     {"x", p(1, one, "")},
		"behind one that was taken away":        {p(1, one, ""), a(1, one), "Ax", p(1, one, "")},
	} {
		l = append(l, opening{name, records, nil})
	}
	return l
}

// TestRecords: boxes of records that a log alone appended.
func TestRecords(t *testing.T) {
	for _, sectors := range []int{60, 61} {
		for _, o := range rightOpenings() {
			t.Run(o.name, func(t *testing.T) {
				x := newPair(t, sectors)
				x.lays(o.records...)
				o.isRight(x)
			})
		}
		for _, o := range wrongOpenings() {
			t.Run(o.name, func(t *testing.T) {
				x := newPair(t, sectors)
				x.lays(o.records...)
				quiet(t, x.d, func() { refuses(t, x.d, 4, api.ErrRot) })
				is(t, x.open(4), api.ErrRot)
				is(t, x.open(1), api.ErrRot)
				holds(t, x.d, 1, o.records...)
			})
		}
	}
}

func (o opening) isRight(x *pair) {
	x.t.Helper()
	for _, quota := range []int{1, 4, 256} {
		quiet(x.t, x.d, func() {
			b, e := boxes.Open(x.d, quota)
			is(x.t, e, api.OK)
			tells(x.t, b, o.has)
		})
	}
	is(x.t, x.open(4), api.OK)
	holds(x.t, x.d, 1, o.records...)
	is(x.t, x.put(1, id(9), "new"), api.OK)
	for _, w := range o.has {
		x.acks(1, w.user, w.id)
	}
	tells(x.t, x.b, plainEntries{{1, id(9), "new"}})
}

// TestEachUserOfRecords: those from 0 to 63 are some.
func TestEachUserOfRecords(t *testing.T) {
	for user := range 256 {
		for _, text := range []string{"", "hi"} {
			d := newDisk(t, 12)
			lay(t, d, recordP(user, id(0), text))
			if user > 63 {
				quiet(t, d, func() { refuses(t, d, 1, api.ErrRot) })
				continue
			}
			b, e := boxes.Open(d, 1)
			is(t, e, api.OK)
			tells(t, b, plainEntries{{user, id(0), text}})
			lay(t, d, recordA(user, id(0)))
			b, e = boxes.Open(d, 1)
			is(t, e, api.OK)
			tells(t, b, nil)
		}
		d := newDisk(t, 12)
		lay(t, d, recordP(7, id(0), ""), recordP(user&63, id(1), ""), recordA(user, id(1)))
		b, e := boxes.Open(d, 1)
		if user > 63 {
			refuses(t, d, 1, api.ErrRot)
			continue
		}
		is(t, e, api.OK)
		tells(t, b, plainEntries{{7, id(0), ""}})
	}
}

// TestRotAtEachPlace: among records that may be, one that may not be is found wherever it stands.
func TestRotAtEachPlace(t *testing.T) {
	right := []string{recordP(1, id(1), "a"), recordP(2, id(1), "b"), recordA(1, id(1)), recordP(1, id(2), ""), recordP(1, id(1), long(40)), recordA(1, id(2)), recordP(63, id(3), "c")}
	for _, wrong := range []string{"x", "P", "A", recordP(1, id(7), "")[:17], recordP(64, id(7), ""), recordP(1, noId, ""), recordP(1, id(7), long(223)), recordA(1, id(7)), recordA(2, id(7)), recordA(2, id(1)) + "x", long(60)} {
		for at := range len(right) + 1 {
			x := newPair(t, 60)
			x.lays(slices.Insert(slices.Clone(right), at, wrong)...)
			is(t, x.open(8), api.ErrRot)
		}
	}
	x := newPair(t, 60)
	x.lays(right...)
	is(t, x.open(8), api.OK)
	tells(t, x.b, plainEntries{{2, id(1), "b"}, {1, id(1), long(40)}, {63, id(3), "c"}})
}

// TestEachRecord: of all first bytes, and of all lengths, those alone may be that the chapter names.
func TestEachRecord(t *testing.T) {
	whole := "\x05" + id(1) + long(2000)
	for first := range 256 {
		for _, behind := range []int{0, 1, 15, 16, 17, 18, 19, 33, 238, 239, 240, 241} {
			d := newDisk(t, 20)
			lay(t, d, recordP(5, id(2), ""), oneByte(first)+whole[:behind])
			if b, e := boxes.Open(d, 1); first == 'P' && behind >= 17 && behind <= 239 {
				is(t, e, api.OK)
				tells(t, b, plainEntries{{5, id(2), ""}, {5, id(1), long(behind - 17)}})
			} else {
				refuses(t, d, 1, api.ErrRot)
			}
			d = newDisk(t, 20)
			lay(t, d, recordP(5, id(1), ""), oneByte(first)+whole[:behind])
			if b, e := boxes.Open(d, 1); first == 'A' && behind == 17 {
				is(t, e, api.OK)
				tells(t, b, nil)
			} else {
				refuses(t, d, 1, api.ErrRot)
			}
		}
	}
	for behind := range 300 {
		d := newDisk(t, 20)
		lay(t, d, "P"+whole[:behind])
		if b, e := boxes.Open(d, 1); behind >= 17 && behind <= 239 {
			is(t, e, api.OK)
			tells(t, b, plainEntries{{5, id(1), long(behind - 17)}})
		} else {
			refuses(t, d, 1, api.ErrRot)
		}
		d = newDisk(t, 20)
		lay(t, d, recordP(5, id(1), ""), "A"+whole[:behind])
		if b, e := boxes.Open(d, 1); behind == 17 {
			is(t, e, api.OK)
			tells(t, b, nil)
		} else {
			refuses(t, d, 1, api.ErrRot)
		}
	}
}

// TestMoreEntriesThanQuota: by records there may be, and then none is put until fewer than quota are there.
func TestMoreEntriesThanQuota(t *testing.T) {
	x := newPair(t, 60)
	var records []string
	for k := range 6 {
		records = append(records, recordP(2, id(k), ""))
	}
	x.lays(append(records, recordP(3, id(0), ""))...)
	for _, quota := range []int{1, 2, 3, 4, 5, 6} {
		is(t, x.open(quota), api.OK)
		x.hasJust(2, 0, 1, 2, 3, 4, 5)
		quiet(t, x.d, func() {
			is(t, x.b.Put(2, id(9), ""), api.ErrFull)
			is(t, x.b.Put(2, id(0), ""), api.ErrThere)
			is(t, x.b.Put(2, id(5), ""), api.ErrThere)
			is(t, x.b.Put(2, id(9), long(223)), api.ErrLong)
		})
	}
	is(t, x.open(7), api.OK)
	x.puts(2, 6)
	is(t, x.put(2, id(7), ""), api.ErrFull)
	is(t, x.open(3), api.OK)
	x.puts(3, 1, 2)
	is(t, x.put(3, id(3), ""), api.ErrFull)
	for k := range 4 {
		x.acks(1, 2, id(k))
		is(t, x.put(2, id(k), ""), api.ErrFull)
	}
	x.acks(1, 2, id(4))
	x.hasJust(2, 5, 6)
	x.puts(2, 7)
	is(t, x.put(2, id(8), ""), api.ErrFull)
	x.hasJust(2, 5, 6, 7)
}

// TestMoreEntriesThanMaxBox: as many as find room on the greatest disk, all of one user.
func TestMoreEntriesThanMaxBox(t *testing.T) {
	var records []string
	for k := range 511 {
		records = append(records, recordP(9, id(k), fmt.Sprint(k)))
	}
	x := newPair(t, sectorsMost)
	x.lays(records...)
	for _, quota := range []int{1, 255, 256} {
		is(t, x.open(quota), api.OK)
		if n := x.b.Len(9); n != 511 {
			t.Fatalf("Len: %d", n)
		}
		if l, e := x.first(9, 256); len(l) != 256 || e != api.OK || l[255].Id != id(255) {
			t.Fatalf("First: %d entries, error %d", len(l), e)
		}
		is(t, x.put(9, id(999), ""), api.ErrFull)
		is(t, x.put(9, id(510), ""), api.ErrThere)
	}
	x.acks(1, 9, id(510)) // no room: the short log of all others
	l, _ := log.Open(x.d)
	if got := l.Records(); !slices.Equal(got, records[:510]) || l.Generation() != 2 {
		t.Fatalf("%d records, generation %d", len(got), l.Generation())
	}
	x.acks(256, 9, ids(200, 456)...)
	if n := x.b.Len(9); n != 254 {
		t.Fatalf("Len: %d", n)
	}
	x.puts(9, 1000, 1001)
	is(t, x.put(9, id(1002), ""), api.ErrFull)
	x.acks(256, 9, append(append(ids(0, 200), ids(456, 510)...), id(1001), id(1000))...)
	tells(t, x.b, nil)
}

// TestOpenedAnew: boxes on a disk that others wrote are the same, whatever quota was, and go on as those would.
func TestOpenedAnew(t *testing.T) {
	x := opened(t, 40, 8)
	x.puts(1, 0, 1, 2)
	x.puts(63, 0, 3)
	x.acks(1, 1, id(1))
	x.puts(0, 5)
	want := plainEntries{{1, id(0), "0"}, {1, id(2), "2"}, {63, id(0), "0"}, {63, id(3), "3"}, {0, id(5), "5"}}
	for _, quota := range []int{8, 4, 1, 2, 256} {
		quiet(t, x.d, func() {
			b, e := boxes.Open(x.d, quota)
			is(t, e, api.OK)
			tells(t, b, want)
		})
		is(t, x.open(quota), api.OK)
		tells(t, x.b, want)
	}
	is(t, x.open(1), api.OK)
	is(t, x.put(1, id(0), ""), api.ErrThere)
	is(t, x.put(1, id(1), ""), api.ErrFull)
	x.acks(2, 1, id(2), id(1), id(0))
	x.puts(1, 1)
	is(t, x.put(1, id(2), ""), api.ErrFull)
	is(t, x.open(2), api.OK)
	x.puts(1, 0)
	x.hasJust(1, 1, 0)
	is(t, x.put(1, id(2), ""), api.ErrFull)
}

// TestOpenCleansBehindRecords: what a crash tore is no part of the boxes, and does not stay.
func TestOpenCleansBehindRecords(t *testing.T) {
	x := opened(t, 12, 8)
	x.puts(1, 0)
	x.fuse(2)
	is(t, x.put(1, id(1), ""), api.ErrDown)
	x.crash(30)
	is(t, x.open(8), api.OK)
	x.hasJust(1, 0)
	if s, _ := x.d.Read(2); s != strings.Repeat("\x00", sectorLong) {
		t.Fatalf("the sector 2 is %q", s)
	}
	x.puts(1, 1)
	x.hasJust(1, 0, 1)
}

// Promise 18.2.

func TestExample(t *testing.T) {
	x := opened(t, 20, 4)
	is(t, x.put(1, id(0), "hi"), api.OK)
	if l, e := x.first(1, 4); e != api.OK || !slices.Equal(l, []api.Slot{{Id: id(0), Text: "hi"}}) {
		t.Fatalf("%q, error %d", l, e)
	}
	x.acks(1, 1, id(0))
	if l, e := x.first(1, 4); e != api.OK || len(l) != 0 {
		t.Fatalf("%q, error %d", l, e)
	}
}

// TestUsers: each has a box of their own.
func TestUsers(t *testing.T) {
	x := opened(t, 300, 4)
	for _, user := range []int{0, 63, 1, 62, 31, 32} {
		is(t, x.put(user, id(user), fmt.Sprint("of ", user)), api.OK)
		is(t, x.put(user, id(99), fmt.Sprint("and ", user)), api.OK)
		x.hasJust(user, user, 99)
	}
	for user := range 64 {
		is(t, x.put(user, id(7), ""), api.OK)
	}
	x.acks(2, 0, id(0), id(7))
	x.acks(2, 63, id(63), id(7))
	x.hasJust(0, 99)
	x.hasJust(63, 99)
	x.hasJust(62, 62, 99, 7)
	is(t, x.open(4), api.OK)
	x.hasJust(1, 1, 99, 7)
}

// TestNoSuchUser: each call tells it ahead of all else that is wrong, and writes nothing.
func TestNoSuchUser(t *testing.T) {
	x := opened(t, 12, 1)
	x.puts(0, 0)
	x.puts(63, 0)
	many := slices.Repeat([]string{id(0)}, 257)
	quiet(t, x.d, func() {
		for _, user := range wrongUsers() {
			is(t, x.b.Put(user, id(0), "hi"), api.ErrRange)
			is(t, x.b.Put(user, id(1), ""), api.ErrRange)
			is(t, x.b.Put(user, "", long(223)), api.ErrRange)
			is(t, x.b.Put(user, noId, ""), api.ErrRange)
			for _, n := range append(wrongManys(), 0, 1, 256) {
				if l, e := x.b.First(user, n); len(l) != 0 || e != api.ErrRange {
					t.Fatalf("First(%d, %d): %q, error %d", user, n, l, e)
				}
			}
			for _, l := range [][]string{nil, {id(0)}, {id(1)}, {""}, {id(0), noId}, many, append(many, "x")} {
				if n, e := x.b.Ack(user, l...); n != 0 || e != api.ErrRange {
					t.Fatalf("Ack(%d, %q): %d, error %d", user, l, n, e)
				}
			}
			if n := x.b.Len(user); n != 0 {
				t.Fatalf("Len(%d): %d", user, n)
			}
		}
	})
	is(t, x.open(1), api.OK)
	x.hasJust(0, 0)
	x.hasJust(63, 0)
}

// TestIdsOfAllBytes: each is told from all others, and lasts.
func TestIdsOfAllBytes(t *testing.T) {
	x := opened(t, 120, 30)
	for i, s := range someIds() {
		x.acks(0, 4, s)
		is(t, x.put(4, s, fmt.Sprint(i)), api.OK)
		is(t, x.put(4, s, ""), api.ErrThere)
	}
	is(t, x.open(30), api.OK)
	for i, s := range someIds() {
		if l, e := x.first(4, 1); e != api.OK || !slices.Equal(l, []api.Slot{{Id: s, Text: fmt.Sprint(i)}}) {
			t.Fatalf("%q, error %d; want %q", l, e, s)
		}
		x.acks(1, 4, s)
		x.acks(0, 4, s)
	}
	tells(t, x.b, nil)
}

// TestEachByteOfAnId tells it from all others; one that is not 0 is enough for an id.
func TestEachByteOfAnId(t *testing.T) {
	x := opened(t, 120, 100)
	x.puts(1, 0)
	for i := range 16 {
		for _, by := range []byte{1, 0x20, 0x80, 0xff} {
			b := []byte(id(0))
			b[i] ^= by
			x.acks(0, 1, string(b))
		}
		b := []byte(noId)
		b[i] = byte(1 + 17*i%255)
		is(t, x.put(1, string(b), ""), api.OK)
		is(t, x.put(1, string(b), ""), api.ErrThere)
	}
	if n := x.b.Len(1); n != 17 {
		t.Fatalf("Len: %d", n)
	}
}

// TestEachLengthOfAnId: it has 16 bytes, of which some are not 0.
func TestEachLengthOfAnId(t *testing.T) {
	x := opened(t, 40, 4)
	x.puts(1, 0)
	for n := range 40 {
		if n == 16 {
			continue
		}
		is(t, x.put(1, long(n), ""), api.ErrForm)
		n, e := x.ack(1, long(n))
		if n != 0 || e != api.ErrForm {
			t.Fatalf("Ack: %d, error %d", n, e)
		}
	}
	quiet(t, x.d, func() {
		for _, s := range wrongIds() {
			is(t, x.b.Put(1, s, ""), api.ErrForm)
			is(t, x.b.Put(1, s, long(223)), api.ErrForm)
			if n, e := x.b.Ack(1, s); n != 0 || e != api.ErrForm {
				t.Fatalf("Ack: %d, error %d", n, e)
			}
		}
	})
	is(t, x.put(1, long(16), ""), api.OK)
	x.acks(1, 1, long(16))
}

// TestEachLengthOfAText: at most 222 bytes, and all of them are told again.
func TestEachLengthOfAText(t *testing.T) {
	for n := range 260 {
		x := opened(t, 13, 4)
		if n > 222 {
			is(t, x.put(1, id(0), long(n)), api.ErrLong)
			quiet(t, x.d, func() { is(t, x.b.Put(1, id(0), long(n)), api.ErrLong) })
			tells(t, x.b, nil)
			continue
		}
		text := long(n/2) + strings.Repeat("\x00", n-n/2)
		is(t, x.put(1, id(0), text), api.OK)
		tells(t, x.b, plainEntries{{1, id(0), text}})
		holds(t, x.d, 1, recordP(1, id(0), text))
		x.crash()
		is(t, x.open(4), api.OK)
		tells(t, x.b, plainEntries{{1, id(0), text}})
	}
	x := opened(t, 12, 4)
	for _, n := range []int{223, 224, 2000, 2001, 1 << 16, 1 << 20} {
		is(t, x.put(1, id(0), long(n)), api.ErrLong)
	}
}

// TestIdOfAnotherUser: that it is in another box changes nothing, in any call.
func TestIdOfAnotherUser(t *testing.T) {
	x := opened(t, 40, 2)
	is(t, x.put(1, id(0), "one"), api.OK)
	is(t, x.put(2, id(0), "two"), api.OK)
	is(t, x.put(1, id(0), "three"), api.ErrThere)
	x.acks(0, 3, id(0))
	x.acks(1, 1, id(0))
	x.acks(0, 1, id(0))
	tells(t, x.b, plainEntries{{2, id(0), "two"}})
	is(t, x.put(1, id(0), "four"), api.OK)
	tells(t, x.b, plainEntries{{2, id(0), "two"}, {1, id(0), "four"}})
	is(t, x.put(3, id(0), "five"), api.OK)
	x.acks(1, 2, id(0))
	tells(t, x.b, plainEntries{{1, id(0), "four"}, {3, id(0), "five"}})
}

// TestPutAgain: an id that was acknowledged may be put once more, behind the others.
func TestPutAgain(t *testing.T) {
	x := opened(t, 40, 3)
	x.puts(1, 0, 1, 2)
	x.acks(1, 1, id(0))
	is(t, x.put(1, id(0), "again"), api.OK)
	x.hasJust(1, 1, 2, 0)
	is(t, x.put(1, id(0), "again"), api.ErrThere)
	for range 30 { // over many compactions
		x.acks(1, 1, id(1))
		is(t, x.put(1, id(1), "and again"), api.OK)
	}
	tells(t, x.b, plainEntries{{1, id(2), "2"}, {1, id(0), "again"}, {1, id(1), "and again"}})
}

// TestJustQuota: a box that is full is so for all but what is there, and no other box is.
func TestJustQuota(t *testing.T) {
	for quota := 1; quota <= 9; quota++ {
		x := opened(t, 60, quota)
		for k := range quota {
			x.puts(1, k)
		}
		is(t, x.put(1, id(99), ""), api.ErrFull)
		is(t, x.put(1, id(0), ""), api.ErrThere)
		is(t, x.put(1, id(quota-1), ""), api.ErrThere)
		x.puts(2, 99)
		x.acks(0, 1, id(99))
		is(t, x.put(1, id(99), ""), api.ErrFull)
		x.acks(1, 1, id(quota/2))
		x.puts(1, 99)
		is(t, x.put(1, id(98), ""), api.ErrFull)
		x.acks(quota, 1, append(ids(0, quota), id(99))...)
		for k := range quota {
			x.puts(1, 50+k)
		}
		is(t, x.put(1, id(98), ""), api.ErrFull)
	}
}

// TestGreatestQuota: 256 entries, on the greatest disk.
func TestGreatestQuota(t *testing.T) {
	d := newDisk(t, sectorsMost)
	b, e := boxes.Open(d, 256)
	is(t, e, api.OK)
	for k := range 256 {
		is(t, b.Put(1, id(k), ""), api.OK)
	}
	is(t, b.Put(1, id(256), ""), api.ErrFull)
	is(t, b.Put(1, id(255), ""), api.ErrThere)
	is(t, b.Put(2, id(256), ""), api.OK)
	if n, e := b.Ack(1, id(128)); n != 1 || e != api.OK {
		t.Fatalf("Ack: %d, error %d", n, e)
	}
	is(t, b.Put(1, id(256), ""), api.OK)
	is(t, b.Put(1, id(257), ""), api.ErrFull)
	l, e := b.First(1, 256)
	is(t, e, api.OK)
	for i, x := range l {
		want := id(i)
		if i >= 128 {
			want = id(i + 1)
		}
		if x.Id != want || x.Text != "" {
			t.Fatalf("the entry %d is %q", i, x)
		}
	}
	if len(l) != 256 || b.Len(1) != 256 {
		t.Fatalf("%d entries, Len %d", len(l), b.Len(1))
	}
}

// TestPutRefusesInOrder: the user, the id, the text, whether it is there, how many are, then what the log has room for.
func TestPutRefusesInOrder(t *testing.T) {
	x := newPair(t, 12) // room for five sectors: the log is full as the box 1 is; of the box 2 more is there than may be
	x.lays(recordP(1, id(0), ""), recordP(1, id(1), ""), recordP(2, id(0), ""), recordP(2, id(1), ""), recordP(2, id(2), ""))
	is(t, x.open(2), api.OK)
	for _, wrongUser := range []bool{true, false} {
		for _, given := range []string{"", noId, long(17), id(0), id(9)} {
			for _, n := range []int{222, 223, 0} {
				for _, user := range []int{1, 2, 3} {
					want := api.ErrSpace
					switch {
					case wrongUser:
						want = api.ErrRange
					case given == "" || given == noId || len(given) > 16:
						want = api.ErrForm
					case n > 222:
						want = api.ErrLong
					case user < 3 && given == id(0):
						want = api.ErrThere
					case user < 3:
						want = api.ErrFull
					}
					if wrongUser {
						user += 63
					}
					is(t, x.put(user, given, long(n)), want)
					quiet(t, x.d, func() { is(t, x.b.Put(user, given, long(n)), want) })
				}
			}
		}
	}
	holds(t, x.d, 1, recordP(1, id(0), ""), recordP(1, id(1), ""), recordP(2, id(0), ""), recordP(2, id(1), ""), recordP(2, id(2), ""))
}

// TestRefusedAheadOfTheDisk: what an argument, or a box, is refused for is told though a fuse would be through at the first write.
func TestRefusedAheadOfTheDisk(t *testing.T) {
	x := opened(t, 20, 1)
	x.puts(1, 0)
	x.fuse(1)
	is(t, x.put(64, id(1), ""), api.ErrRange)
	is(t, x.put(1, "x", ""), api.ErrForm)
	is(t, x.put(1, id(1), long(223)), api.ErrLong)
	is(t, x.put(1, id(0), ""), api.ErrThere)
	is(t, x.put(1, id(1), ""), api.ErrFull)
	x.acks(0, 1)
	x.acks(0, 1, id(1))
	if n, e := x.ack(1, id(0), "x"); n != 0 || e != api.ErrForm {
		t.Fatalf("Ack: %d, error %d", n, e)
	}
	if n, e := x.ack(1, id(0)); n != 0 || e != api.ErrDown {
		t.Fatalf("Ack: %d, error %d", n, e)
	}
	x.crash()
	is(t, x.open(1), api.OK)
	x.fuse(1)
	is(t, x.put(2, id(0), ""), api.ErrDown)
}

// TestFirst: the oldest n, or all.
func TestFirst(t *testing.T) {
	x := opened(t, 60, 20)
	for have := range 12 {
		for n := range 20 {
			l, e := x.first(5, n)
			is(t, e, api.OK)
			if len(l) != min(n, have) {
				t.Fatalf("First(5, %d) of %d: %d entries", n, have, len(l))
			}
			for k, s := range l {
				if s != (api.Slot{Id: id(k), Text: fmt.Sprint(k)}) {
					t.Fatalf("the entry %d is %q", k, s)
				}
			}
			if l, e := x.first(6, n); len(l) != 0 || e != api.OK {
				t.Fatalf("First(6, %d): %q, error %d", n, l, e)
			}
		}
		for _, n := range []int{255, 256} {
			if l, e := x.first(5, n); len(l) != have || e != api.OK {
				t.Fatalf("First(5, %d): %d entries, error %d", n, len(l), e)
			}
		}
		x.puts(5, have)
	}
}

func TestFirstRefuses(t *testing.T) {
	x := opened(t, 20, 4)
	x.puts(0, 0)
	x.puts(63, 0)
	quiet(t, x.d, func() {
		for _, n := range wrongManys() {
			for _, user := range []int{0, 1, 63, 64, -1} {
				if l, e := x.b.First(user, n); len(l) != 0 || e != api.ErrRange {
					t.Fatalf("First(%d, %d): %q, error %d", user, n, l, e)
				}
			}
		}
	})
}

// TestRecordsOfCalls: a P for each Put that answers OK, an A for each entry that an Ack takes away, none for any other call.
func TestRecordsOfCalls(t *testing.T) {
	x := opened(t, 40, 3)
	is(t, x.put(1, id(0), "hi"), api.OK)
	records := []string{recordP(1, id(0), "hi")}
	holds(t, x.d, 1, records...)
	is(t, x.put(1, id(0), "ho"), api.ErrThere)
	is(t, x.put(1, "x", ""), api.ErrForm)
	is(t, x.put(0, id(0), ""), api.OK)
	is(t, x.put(63, id(0), long(222)), api.OK)
	is(t, x.put(1, id(2), ""), api.OK)
	is(t, x.put(1, id(1), ""), api.OK)
	is(t, x.put(1, id(3), ""), api.ErrFull)
	records = append(records, recordP(0, id(0), ""), recordP(63, id(0), long(222)), recordP(1, id(2), ""), recordP(1, id(1), ""))
	holds(t, x.d, 1, records...)
	x.acks(0, 1)
	x.acks(0, 1, id(3))
	x.acks(0, 2, id(0))
	x.first(1, 3)
	holds(t, x.d, 1, records...)
	x.acks(1, 63, id(0))
	x.acks(2, 1, id(1), id(9), id(1), id(0))
	records = append(records, recordA(63, id(0)), recordA(1, id(1)), recordA(1, id(0)))
	holds(t, x.d, 1, records...)
	tells(t, x.b, plainEntries{{0, id(0), ""}, {1, id(2), ""}})
	if x.d.Waits() != 0 {
		t.Fatal("something waits")
	}
}

// Records that find no room.

// shortening is records on a disk of 12 sectors, which has room for five of one sector each, and what lies there once a call wrote more than finds room.
type shortening struct {
	name  string
	first []string
	put   *waiting // nil: an Ack
	user  int
	ids   []string
	want  []string
}

func shortPuts() []shortening {
	p, a := recordP, recordA
	put := func(user, k int, text string) *waiting { return &waiting{user, id(k), text} }
	full := []string{p(5, id(0), "a"), p(3, id(0), "b"), p(5, id(1), "c"), a(5, id(0)), p(0, id(2), "d")}
	return []shortening{
		{name: "Put of the first user", first: full, put: put(0, 9, "new"), want: []string{p(0, id(2), "d"), p(0, id(9), "new"), p(3, id(0), "b"), p(5, id(1), "c")}},
		{name: "Put of a user between", first: full, put: put(4, 9, "new"), want: []string{p(0, id(2), "d"), p(3, id(0), "b"), p(4, id(9), "new"), p(5, id(1), "c")}},
		{name: "Put of a user who has some", first: full, put: put(3, 9, "new"), want: []string{p(0, id(2), "d"), p(3, id(0), "b"), p(3, id(9), "new"), p(5, id(1), "c")}},
		{name: "Put of the last user", first: full, put: put(63, 9, ""), want: []string{p(0, id(2), "d"), p(3, id(0), "b"), p(5, id(1), "c"), p(63, id(9), "")}},
		{name: "Put of an id that was taken away", first: full, put: put(5, 0, "new"), want: []string{p(0, id(2), "d"), p(3, id(0), "b"), p(5, id(1), "c"), p(5, id(0), "new")}},
		{name: "Put of an id that another has", first: full, put: put(5, 2, "new"), want: []string{p(0, id(2), "d"), p(3, id(0), "b"), p(5, id(1), "c"), p(5, id(2), "new")}},
		{name: "Put, all were taken away", first: []string{p(5, id(0), long(30)), a(5, id(0)), p(7, id(0), ""), a(7, id(0))}, put: put(5, 0, "new"), want: []string{p(5, id(0), "new")}},
		{name: "Put of a long text, all were taken away", first: []string{p(5, id(0), ""), a(5, id(0))}, put: put(9, 0, long(222)), want: []string{p(9, id(0), long(222))}},
		{name: "Put of a long text, just room", first: []string{p(8, id(0), ""), p(7, id(0), ""), a(8, id(0))}, put: put(6, 0, long(220)), want: []string{p(6, id(0), long(220)), p(7, id(0), "")}},
		{name: "Put, the oldest first", first: []string{p(5, id(3), ""), p(5, id(1), ""), p(5, id(2), ""), a(5, id(1))}, put: put(5, 0, long(40)), want: []string{p(5, id(3), ""), p(5, id(2), ""), p(5, id(0), long(40))}},
	}
}

func shortAcks() []shortening {
	p, a := recordP, recordA
	five := []string{p(5, id(0), "a"), p(3, id(0), "b"), p(5, id(1), "c"), p(0, id(2), "d"), p(5, id(2), "e")}
	four := []string{p(5, id(0), "a"), p(3, id(0), "b"), p(5, id(1), "c"), p(5, id(2), "e")}
	three := []string{p(5, id(0), "a"), p(5, id(1), "c"), p(5, id(2), "e")}
	two := []string{p(5, id(0), "a"), p(5, id(1), long(30))}
	return []shortening{
		{name: "Ack of one", first: five, user: 5, ids: []string{id(1)}, want: []string{p(0, id(2), "d"), p(3, id(0), "b"), p(5, id(0), "a"), p(5, id(2), "e")}},
		{name: "Ack of the only one of a user", first: five, user: 3, ids: []string{id(0)}, want: []string{p(0, id(2), "d"), p(5, id(0), "a"), p(5, id(1), "c"), p(5, id(2), "e")}},
		{name: "Ack of one twice, and of none", first: five, user: 5, ids: []string{id(9), id(0), id(0)}, want: []string{p(0, id(2), "d"), p(3, id(0), "b"), p(5, id(1), "c"), p(5, id(2), "e")}},
		{name: "Ack of three, the first A finds no room", first: five, user: 5, ids: []string{id(2), id(0), id(1)}, want: []string{p(0, id(2), "d"), p(3, id(0), "b")}},
		{name: "Ack of two, the first A finds no room", first: five, user: 5, ids: []string{id(2), id(0)}, want: []string{p(0, id(2), "d"), p(3, id(0), "b"), p(5, id(1), "c")}},
		{name: "Ack of three, the middle A finds no room", first: four, user: 5, ids: []string{id(2), id(0), id(1)}, want: []string{p(3, id(0), "b")}},
		{name: "Ack of two, the last A finds no room", first: four, user: 5, ids: []string{id(1), id(2)}, want: []string{p(3, id(0), "b"), p(5, id(0), "a")}},
		{name: "Ack of three, the last A finds no room", first: three, user: 5, ids: ids(0, 3), want: nil},
		{name: "Ack of both, the last A finds no room", first: append(two, p(3, id(7), "")), user: 5, ids: []string{id(1), id(0)}, want: []string{p(3, id(7), "")}},
		{name: "Ack of all behind acks", first: []string{p(1, id(0), ""), p(1, id(1), ""), a(1, id(0)), p(1, id(0), "x")}, user: 1, ids: []string{id(0), id(1)}, want: nil},
	}
}

// TestShortLog: where a record finds no room, the log is the short one of the boxes as they are behind the call.
func TestShortLog(t *testing.T) {
	for _, x := range append(shortPuts(), shortAcks()...) {
		for _, sectors := range []int{12, 13} {
			y := newPair(t, sectors)
			y.lays(x.first...)
			is(t, y.open(8), api.OK)
			if x.put != nil {
				is(t, y.put(x.put.user, x.put.id, x.put.text), api.OK)
			} else if _, e := y.ack(x.user, x.ids...); e != api.OK {
				t.Fatalf("%s: error %d", x.name, e)
			}
			l, _ := log.Open(y.d)
			if got := l.Records(); !slices.Equal(got, x.want) || l.Generation() != 2 {
				t.Fatalf("%s: the records are %q, generation %d; want %q", x.name, got, l.Generation(), x.want)
			}
			if y.d.Waits() != 0 {
				t.Fatalf("%s: something waits", x.name)
			}
			want, _ := plainEntries{}.behind(x.want...)
			tells(t, y.b, want)
			y.crash()
			is(t, y.open(8), api.OK)
			tells(t, y.b, want)
			more := api.OK // of the short log, nothing can be left out any more
			if y.b.Room() == 0 {
				more = api.ErrSpace
			}
			is(t, y.put(9, id(77), ""), more)
		}
	}
}

// TestJustRoom: acks that find room to the last one are appended, and synced.
func TestJustRoom(t *testing.T) {
	x := opened(t, 14, 8) // room for six
	x.puts(1, 0, 1, 2)
	x.acks(3, 1, ids(0, 3)...)
	holds(t, x.d, 1, recordP(1, id(0), "0"), recordP(1, id(1), "1"), recordP(1, id(2), "2"), recordA(1, id(0)), recordA(1, id(1)), recordA(1, id(2)))
	x.puts(2, 0)
	holds(t, x.d, 2, recordP(2, id(0), "0"))
	for n := range 223 {
		x := opened(t, 12, 8)
		sectors := (18 + 18 + n + 63) / 64
		for k := range 5 - sectors {
			x.puts(1, k)
		}
		is(t, x.put(2, id(9), long(n)), api.OK)
		if l, _ := log.Open(x.d); l.Room() != 0 || l.Generation() != 1 {
			t.Fatalf("%d bytes: room %d, generation %d", n, l.Room(), l.Generation())
		}
		is(t, x.put(3, id(0), ""), api.ErrSpace)
		x.acks(1, 2, id(9))
		is(t, x.put(3, id(0), ""), api.OK)
	}
}

// TestShortLogFindsNoRoom: the log is left alone then, and the boxes are as they were.
func TestShortLogFindsNoRoom(t *testing.T) {
	p, a := recordP, recordA
	for _, x := range []struct {
		sectors int
		first   []string
		n       int // bytes of a text that finds no room
	}{
		{4, nil, 29},
		{5, nil, 222},
		{4, []string{p(1, id(0), "")}, 0},
		{5, []string{p(1, id(0), "")}, 28},
		{6, []string{p(1, id(0), long(29))}, 0},
		{6, []string{p(1, id(0), ""), p(2, id(0), "")}, 0},
		{8, []string{p(1, id(0), ""), p(2, id(0), ""), a(1, id(0))}, 93},
		{11, nil, 222},
		{12, []string{p(1, id(0), "")}, 221},
		{12, []string{p(1, id(0), ""), a(1, id(0)), p(1, id(0), "")}, 222},
		{12, []string{p(1, id(0), ""), p(1, id(1), ""), p(1, id(2), ""), p(1, id(3), "")}, 29},
		{13, []string{p(1, id(0), ""), p(1, id(1), ""), p(1, id(2), ""), p(1, id(3), ""), p(3, id(4), "")}, 0},
		{12, []string{p(1, id(0), long(93)), p(3, id(4), long(28)), a(3, id(4))}, 93},
	} {
		y := newPair(t, x.sectors)
		y.lays(x.first...)
		want, _ := plainEntries{}.behind(x.first...)
		for range 3 {
			is(t, y.open(8), api.OK)
			quiet(t, y.d, func() {
				for _, user := range []int{0, 1, 2, 63} {
					is(t, y.b.Put(user, id(9), long(x.n)), api.ErrSpace)
				}
				tells(t, y.b, want)
			})
			holds(t, y.d, 1, x.first...)
			is(t, y.open(8), api.OK)
			is(t, y.put(3, id(9), long(x.n)), api.ErrSpace)
		}
		for _, w := range want {
			y.acks(1, w.user, w.id)
		}
		tells(t, y.b, nil)
	}
}

// TestSmallest: a disk of 4 sectors has room for one record.
func TestSmallest(t *testing.T) {
	for _, sectors := range []int{4, 5} {
		x := opened(t, sectors, 8)
		is(t, x.put(1, id(0), long(29)), api.ErrSpace)
		holds(t, x.d, 1)
		is(t, x.put(1, id(0), long(28)), api.OK)
		is(t, x.put(2, id(0), ""), api.ErrSpace)
		holds(t, x.d, 1, recordP(1, id(0), long(28)))
		for k := range 5 {
			x.acks(1, 1, id(k))
			holds(t, x.d, 2+k)
			is(t, x.put(1, id(k+1), ""), api.OK)
			holds(t, x.d, 2+k, recordP(1, id(k+1), ""))
		}
	}
}

// TestNoCompactionWhileThereIsRoom: the log goes on up to its last sector.
func TestNoCompactionWhileThereIsRoom(t *testing.T) {
	for _, sectors := range []int{8, 9, 12, 13, 40} {
		x := opened(t, sectors, 8)
		var records []string
		for k := range sectors/2 - 1 {
			if k%2 == 0 {
				x.puts(1, k)
				records = append(records, recordP(1, id(k), fmt.Sprint(k)))
			} else {
				x.acks(1, 1, id(k-1))
				records = append(records, recordA(1, id(k-1)))
			}
			holds(t, x.d, 1, records...)
		}
		left := x.p.short()
		x.puts(2, 0)
		holds(t, x.d, 2, append(left, recordP(2, id(0), "0"))...)
	}
}

// TestCompactionsGoOn: from half to half, again and again.
func TestCompactionsGoOn(t *testing.T) {
	x := opened(t, 14, 8) // room for six
	for k := range 300 {
		x.puts(k%64, k)
		if k > 2 {
			x.acks(1, (k-3)%64, id(k-3))
		}
		if k%7 == 3 {
			is(t, x.open(8), api.OK)
		}
	}
	if n := x.b.Generation(); n < 100 {
		t.Fatalf("generation %d", n)
	}
	x.hasJust(299%64, 299)
	x.hasJust(298%64, 298)
	x.hasJust(297%64, 297)
}

// atGeneration is boxes on a disk of 12 sectors whose half 1 is of a generation, and has records.
func atGeneration(t *testing.T, generation int, records ...string) *pair {
	t.Helper()
	x := newPair(t, 12)
	x.writes(6, head(generation))
	x.lays(records...)
	is(t, x.open(8), api.OK)
	return x
}

// TestLastGeneration: a log that cannot be compacted any more tells that, and the boxes, and all on the disk, are as they were: also of an Ack some of whose As would have found room.
func TestLastGeneration(t *testing.T) {
	p, a := recordP, recordA
	one, two, three := p(1, id(0), ""), p(1, id(1), ""), p(1, id(2), "")
	for _, x := range []struct {
		name  string
		first []string
		call  func(x *pair) api.Errno
		last  api.Errno // at the last generation; at the one ahead: OK
	}{
		{"Put", []string{one, two, a(1, id(0)), three, a(1, id(1))}, func(x *pair) api.Errno { return x.put(2, id(0), "") }, api.ErrLong},
		{"Put of two sectors", []string{one, a(1, id(0)), two, a(1, id(1))}, func(x *pair) api.Errno { return x.put(2, id(0), long(29)) }, api.ErrLong},
		{"Put that finds room", []string{one, a(1, id(0)), two}, func(x *pair) api.Errno { return x.put(2, id(0), long(29)) }, api.OK},
		{"Ack of one, no room", []string{one, two, a(1, id(0)), three, p(2, id(0), "")}, acked(1, id(1)), api.ErrLong},
		{"Ack of two, no room", []string{one, two, a(1, id(0)), three, p(2, id(0), "")}, acked(1, id(1), id(2)), api.ErrLong},
		{"Ack of one, room for one", []string{one, two, three, p(2, id(0), "")}, acked(1, id(1)), api.OK},
		{"Ack of one twice, room for one", []string{one, two, three, p(2, id(0), "")}, acked(1, id(1), id(9), id(1)), api.OK},
		{"Ack of two, room for one", []string{one, two, three, p(2, id(0), "")}, acked(1, id(1), id(0)), api.ErrLong},
		{"Ack of three, room for one", []string{one, two, three, p(2, id(0), "")}, acked(1, ids(0, 3)...), api.ErrLong},
		{"Ack of three, room for two", []string{one, two, three}, acked(1, ids(0, 3)...), api.ErrLong},
		{"Ack of two, room for two", []string{one, two, three}, acked(1, ids(1, 3)...), api.OK},
		{"Ack of none", []string{one, two, three, p(2, id(0), ""), p(3, id(0), "")}, acked(1, ids(5, 9)...), api.OK},
	} {
		y := atGeneration(t, 1<<31-2, x.first...)
		is(t, x.call(y), api.OK)
		y = atGeneration(t, 1<<31-1, x.first...)
		was := y.p.plainEntries
		is(t, x.call(y), x.last)
		if x.last == api.OK {
			continue
		}
		tells(t, y.b, was)
		quiet(t, y.d, func() { is(t, x.call(y), api.ErrLong) })
		holds(t, y.d, 1<<31-1, x.first...)
		is(t, y.open(8), api.OK)
		tells(t, y.b, was)
	}
	full := []string{one, two, three, p(2, id(0), ""), p(3, id(0), "")}
	y := atGeneration(t, 1<<31-1, full...)
	is(t, y.put(4, id(0), ""), api.ErrSpace) // which the log names first
	holds(t, y.d, 1<<31-1, full...)
}

// acked is a call of Ack.
func acked(user int, ids ...string) func(x *pair) api.Errno {
	return func(x *pair) api.Errno {
		_, e := x.ack(user, ids...)
		return e
	}
}

// TestInOrder: what is written and synced, of calls that find room, and of those that do not.
func TestInOrder(t *testing.T) {
	p, a := recordP, recordA
	put := func(n int) func(x *pair) api.Errno {
		return func(x *pair) api.Errno { return x.put(9, id(9), long(n)) }
	}
	three := []string{p(5, id(0), ""), p(5, id(1), ""), p(5, id(2), "")}
	four := append(slices.Clone(three), p(1, id(0), ""))
	five := append(slices.Clone(four), p(2, id(0), ""))
	for _, y := range []struct {
		name  string
		first []string // on a new disk of 12 sectors: the halves begin at 0 and 6
		call  func(x *pair) api.Errno
		want  string
	}{
		{"the first Put", nil, put(0), "w1 s"},
		{"the first Put, of five sectors", nil, put(222), "w1 w2 w3 w4 w5 s"},
		{"a later Put", four, put(28), "w5 s"},
		{"Ack of one", three, acked(5, id(1)), "w4 s"},
		{"Ack of two: one sync", three, acked(5, id(1), id(0)), "w4 w5 s"},
		{"Ack of three: the last one finds no room", three, acked(5, id(1), id(0), id(2)), "w4 w5 s w6 s"},
		{"Ack of two: the last one finds no room", four, acked(5, id(1), id(0)), "w5 w7 w8 s w6 s"},
		{"Ack of three: the middle one finds no room", four, acked(5, id(1), id(0), id(2)), "w5 w7 s w6 s"},
		{"Ack of two: the first one finds no room", five, acked(5, id(1), id(0)), "w7 w8 w9 s w6 s"},
		{"Ack of one: no room", five, acked(1, id(0)), "w7 w8 w9 w10 s w6 s"},
		{"Put: no room", append(slices.Clone(four), a(5, id(1))), put(0), "w7 w8 w9 w10 s w6 s"},
		{"Put: no room, all were taken away", []string{p(5, id(0), ""), a(5, id(0))}, put(222), "w7 w8 w9 w10 w11 s w6 s"},
	} {
		prepare := func() *pair {
			x := newPair(t, 12)
			x.lays(y.first...)
			is(t, x.open(8), api.OK)
			return x
		}
		if got := trace(t, prepare, y.call); got != y.want {
			t.Errorf("%s: %s; want %s", y.name, got, y.want)
		}
	}
	back := func() *pair { // the half 1 is in use, the half 0 full of what was
		x := newPair(t, 12)
		x.lays(five...)
		is(t, x.open(8), api.OK)
		x.acks(1, 5, id(0))
		return x
	}
	if got := trace(t, back, acked(5, id(1), id(2))); got != "w11 w0 w1 w2 w3 w4 w5 s w1 w2 s w0 s" {
		t.Errorf("back to the half 0: %s", got)
	}
}

// TestGreatestDisk: as many entries as find room, of all users, and all of them told again.
func TestGreatestDisk(t *testing.T) {
	for _, sectors := range []int{sectorsMost - 1, sectorsMost} {
		room := sectors/2 - 1
		d := newDisk(t, sectors)
		b, e := boxes.Open(d, 256)
		is(t, e, api.OK)
		var want plainEntries
		for k := range room {
			want = append(want, waiting{k * 7 % 64, id(k), fmt.Sprint(k)})
			is(t, b.Put(k*7%64, id(k), fmt.Sprint(k)), api.OK)
		}
		is(t, b.Put(0, id(9999), ""), api.ErrSpace)
		tells(t, b, want)
		b, e = boxes.Open(d, 1)
		is(t, e, api.OK)
		tells(t, b, want)
		if n, e := b.Ack(7, id(1), id(65)); n != 2 || e != api.OK {
			t.Fatalf("Ack: %d, error %d", n, e)
		}
		want = want.without(7, id(1)).without(7, id(65))
		tells(t, b, want)
		holds(t, d, 2, want.short()...)
	}
}

// TestCallsOfADiskThatRefuses: a fuse at each write and sync on the way is told as it is, and the number beside it is 0.
func TestCallsOfADiskThatRefuses(t *testing.T) {
	three := []string{recordP(5, id(0), ""), recordP(5, id(1), ""), recordP(5, id(2), "")}
	four := append(slices.Clone(three), recordP(1, id(0), ""))
	gone := append(slices.Clone(four), recordA(5, id(0)))
	for _, first := range [][]string{nil, three, four, gone} {
		for k, call := range []func(x *pair) api.Errno{
			func(x *pair) api.Errno { return x.put(9, id(9), "") },
			func(x *pair) api.Errno { return x.put(9, id(9), long(40)) },
			acked(5, id(1)), acked(5, id(2), id(1)), acked(5, id(2), id(1), id(0)),
		} {
			if first == nil && k > 1 {
				continue
			}
			refused := 0
			for n := 1; ; n++ {
				x := newPair(t, 14)
				x.lays(first...)
				is(t, x.open(8), api.OK)
				x.fuse(n)
				if call(x) != api.ErrDown {
					break
				}
				refused++
				is(t, x.open(8), api.ErrDown)
			}
			if refused < 2 {
				t.Errorf("behind %q, the call %d: %d writes and syncs", first, k, refused)
			}
		}
	}
}

// Promise 18.3.

// TestAck: those that are there, whatever else is asked for, in whatever order.
func TestAck(t *testing.T) {
	for _, x := range []struct {
		ids  []int
		left []int
	}{
		{nil, []int{0, 1, 2, 3, 4}},
		{[]int{0}, []int{1, 2, 3, 4}},
		{[]int{2}, []int{0, 1, 3, 4}},
		{[]int{4}, []int{0, 1, 2, 3}},
		{[]int{4, 0}, []int{1, 2, 3}},
		{[]int{0, 4}, []int{1, 2, 3}},
		{[]int{1, 2, 3}, []int{0, 4}},
		{[]int{3, 1, 2}, []int{0, 4}},
		{[]int{0, 1, 2, 3, 4}, nil},
		{[]int{4, 3, 2, 1, 0}, nil},
		{[]int{2, 2}, []int{0, 1, 3, 4}},
		{[]int{2, 2, 2, 2}, []int{0, 1, 3, 4}},
		{[]int{2, 0, 2, 0}, []int{1, 3, 4}},
		{[]int{9}, []int{0, 1, 2, 3, 4}},
		{[]int{9, 9, 8}, []int{0, 1, 2, 3, 4}},
		{[]int{9, 1, 8}, []int{0, 2, 3, 4}},
		{[]int{1, 9, 3, 9, 1}, []int{0, 2, 4}},
		{[]int{10, 11}, []int{0, 1, 2, 3, 4}}, // another's
	} {
		y := opened(t, 60, 8)
		y.puts(6, 10, 0)
		y.puts(5, 0, 1, 2, 3, 4)
		y.puts(4, 11, 1)
		var ids, records []string
		for _, k := range x.ids {
			ids = append(ids, id(k))
			if r := recordA(5, id(k)); k < 5 && !slices.Contains(records, r) {
				records = append(records, r)
			}
		}
		l, _ := log.Open(y.d)
		was := l.Records()
		if len(records) == 0 {
			quiet(t, y.d, func() {
				if n, e := y.b.Ack(5, ids...); n != 0 || e != api.OK {
					t.Fatalf("Ack: %d, error %d", n, e)
				}
			})
			is(t, y.open(8), api.OK)
		}
		y.acks(5-len(x.left), 5, ids...)
		y.hasJust(5, x.left...)
		y.hasJust(6, 10, 0)
		y.hasJust(4, 11, 1)
		holds(t, y.d, 1, append(was, records...)...)
		y.acks(0, 5, ids...)
		y.crash()
		is(t, y.open(8), api.OK)
		y.hasJust(5, x.left...)
	}
}

// TestAckOfMany: at most 256 ids, the same ones or not.
func TestAckOfMany(t *testing.T) {
	d := newDisk(t, sectorsMost)
	b, e := boxes.Open(d, 256)
	is(t, e, api.OK)
	for k := range 256 {
		is(t, b.Put(1, id(k), ""), api.OK)
	}
	quiet(t, d, func() {
		for _, many := range []int{257, 258, 512, 5000} {
			for _, l := range [][]string{ids(0, many), slices.Repeat([]string{id(0)}, many), ids(1000, 1000+many)} {
				if n, e := b.Ack(1, l...); n != 0 || e != api.ErrLong {
					t.Fatalf("Ack of %d: %d, error %d", many, n, e)
				}
			}
		}
		if n, e := b.Ack(1, ids(1000, 1256)...); n != 0 || e != api.OK {
			t.Fatalf("Ack of none: %d, error %d", n, e)
		}
	})
	b, e = boxes.Open(d, 256)
	is(t, e, api.OK)
	if n, e := b.Ack(1, slices.Repeat([]string{id(3), id(4)}, 128)...); n != 2 || e != api.OK {
		t.Fatalf("Ack of two, again and again: %d, error %d", n, e)
	}
	if n, e := b.Ack(1, ids(0, 256)...); n != 254 || e != api.OK {
		t.Fatalf("Ack of all: %d, error %d", n, e)
	}
	tells(t, b, nil)
	b, e = boxes.Open(d, 256)
	is(t, e, api.OK)
	tells(t, b, nil)
}

// TestAckRefusesInOrder: the user, the ids, how many there are; and nothing is taken away.
func TestAckRefusesInOrder(t *testing.T) {
	x := opened(t, 40, 8)
	x.puts(1, 0, 1, 2)
	quiet(t, x.d, func() {
		for _, wrong := range wrongIds() {
			for _, l := range [][]string{
				{wrong}, {wrong, id(0)}, {id(0), wrong}, {id(0), wrong, id(1)}, {id(9), wrong}, {wrong, wrong},
				append(ids(0, 255), wrong), append([]string{wrong}, ids(0, 255)...),
				append(ids(0, 256), wrong), append([]string{wrong}, ids(0, 256)...), append(ids(0, 300), wrong), append(ids(0, 300), wrong, id(1)),
			} {
				if n, e := x.b.Ack(1, l...); n != 0 || e != api.ErrForm {
					t.Fatalf("Ack of %d: %d, error %d", len(l), n, e)
				}
				if n, e := x.b.Ack(64, l...); n != 0 || e != api.ErrRange {
					t.Fatalf("Ack of %d: %d, error %d", len(l), n, e)
				}
			}
		}
		if n, e := x.b.Ack(1, ids(0, 257)...); n != 0 || e != api.ErrLong {
			t.Fatalf("Ack: %d, error %d", n, e)
		}
		if n, e := x.b.Ack(-1, ids(0, 257)...); n != 0 || e != api.ErrRange {
			t.Fatalf("Ack: %d, error %d", n, e)
		}
		x.looks()
	})
	is(t, x.open(8), api.OK)
	x.hasJust(1, 0, 1, 2)
}
