package parts_test

import (
	"fmt"
	"math"
	"math/rand"
	"slices"
	"strings"
	"testing"

	"dovecote/api"
	"dovecote/hash"
	"dovecote/parts"
)

// 22.1

func TestExample(t *testing.T) {
	l, e := parts.Cut("an id is", strings.Repeat("x", 201))
	is(t, e, api.OK)
	if len(l) != 2 || len(l[0]) != 216 || len(l[1]) != 17 {
		t.Fatalf("the parts are %q", l)
	}
}

// TestCutByHand: the digests are reckoned by another program.
func TestCutByHand(t *testing.T) {
	every := ""
	for k := range 256 {
		every += string([]byte{byte(k)})
	}
	x := strings.Repeat("x", 200)
	for _, c := range []struct {
		id, body string
		want     []string
	}{
		{"an id is", "", []string{"an id is\x00\x01\x95\xaa\x30\x94\x40\xbb"}},
		{"an id is", "hello", []string{"an id is\x00\x01\x1f\x90\xb2\xc4\xa5\x5chello"}},
		{"12345678", x, []string{"12345678\x00\x01\xd8\x82\x98\xf9\x3c\x31" + x}},
		{"12345678", x + "x", []string{"12345678\x00\x02\x8e\x1a\x99\x2e\xec\xab" + x, "12345678\x01\x02\x8e\x1a\x99\x2e\xec\xabx"}},
		{"\xff\xff\xff\xff\xff\xff\xff\xff", "\xff", []string{"\xff\xff\xff\xff\xff\xff\xff\xff\x00\x01\x71\xe2\x32\xcc\x41\x5b\xff"}},
	} {
		l, e := parts.Cut(c.id, c.body)
		is(t, e, api.OK)
		if !slices.Equal(l, c.want) {
			t.Errorf("the parts of %q and %q are %q; want %q", c.id, c.body, l, c.want)
		}
	}
	l, e := parts.Cut("\x00\x00\x00\x00\x00\x00\x00\x00", strings.Repeat(every, 8))
	is(t, e, api.OK)
	if len(l) != 11 || l[10] != "\x00\x00\x00\x00\x00\x00\x00\x00\x0a\x0b\x26\x6c\xf0\xdd\xe0\x47"+every[208:] {
		t.Errorf("the parts are %q", l)
	}
}

// TestCutOfEveryLength: each part's text byte by byte, and where it is cut.
func TestCutOfEveryLength(t *testing.T) {
	for long := range 2049 {
		id, body := id(long), body(long, long)
		l, e := parts.Cut(id, body)
		is(t, e, api.OK)
		want, _ := cut(id, body)
		if !slices.Equal(l, want) {
			t.Fatalf("the parts of %d bytes are %q; want %q", long, l, want)
		}
		if many := max(1, (long+199)/200); len(l) != many || len(l) > 11 {
			t.Fatalf("%d bytes have %d parts", long, len(l))
		}
		sum, _ := hash.Short(6, id, body)
		whole := ""
		for number, s := range l {
			if s[:16] != id+string([]byte{byte(number), byte(len(l))})+sum {
				t.Fatalf("the part %d of %d bytes begins with %q", number, long, s[:16])
			}
			if len(s) > 216 || len(s) < 216 && number < len(l)-1 {
				t.Fatalf("the part %d of %d bytes has %d", number, long, len(s))
			}
			whole += s[16:]
		}
		if whole != body {
			t.Fatalf("of %d bytes the pieces are %q", long, whole)
		}
	}
}

func TestCutAtTheEdges(t *testing.T) {
	for _, c := range []struct{ long, many, last int }{
		{0, 1, 0}, {1, 1, 1}, {199, 1, 199}, {200, 1, 200}, {201, 2, 1}, {399, 2, 199}, {400, 2, 200}, {401, 3, 1},
		{1800, 9, 200}, {1801, 10, 1}, {2000, 10, 200}, {2001, 11, 1}, {2047, 11, 47}, {2048, 11, 48},
	} {
		l, e := parts.Cut("an id is", strings.Repeat("x", c.long))
		is(t, e, api.OK)
		if len(l) != c.many || len(l[len(l)-1]) != 16+c.last {
			t.Errorf("%d bytes have %d parts, the last one of %d bytes", c.long, len(l), len(l[len(l)-1]))
		}
	}
}

// ids are such as may be, of all kinds of bytes.
func ids() []string {
	return []string{"an id is", "12345678", "        ", "\x00\x00\x00\x00\x00\x00\x00\x00", "\xff\xff\xff\xff\xff\xff\xff\xff", "\x00\x01\x0b\x00\x01\x0b\x00\x01", "éèüö", "a\x00b\x00c\x00d\x00"}
}

// wrongIds are such as may not be.
func wrongIds() (l []string) {
	for _, long := range []int{0, 1, 6, 7, 9, 10, 16, 200, 256 + 8, 1 << 16, 1<<16 + 8} {
		l = append(l, strings.Repeat("i", long))
	}
	return append(l, strings.Repeat("é", 8), "\x00", strings.Repeat("\x00", 9))
}

func TestCutAsPlain(t *testing.T) {
	for _, id := range append(ids(), wrongIds()...) {
		for _, long := range []int{0, 1, 7, 199, 200, 201, 400, 401, 2000, 2001, 2047, 2048, 2049, 2050, 4096, 1 << 16} {
			for _, body := range []string{body(long, long), strings.Repeat("\x00", long), strings.Repeat("\xff", long)} {
				l, e := parts.Cut(id, body)
				want, we := cut(id, body)
				is(t, e, we)
				if !slices.Equal(l, want) {
					t.Fatalf("the parts of %q and %d bytes are %q; want %q", id, long, l, want)
				}
			}
		}
	}
}

// TestCutRefuses: beside the error there is no part; of an id that may not be ahead of a body that is too long.
func TestCutRefuses(t *testing.T) {
	refused := func(id, body string, want api.Errno) {
		t.Helper()
		l, e := parts.Cut(id, body)
		is(t, e, want)
		if len(l) != 0 {
			t.Fatalf("beside the error there are the parts %q", l)
		}
	}
	for _, wrong := range wrongIds() {
		for _, long := range []int{0, 1, 200, 2048, 2049, 1 << 16} {
			refused(wrong, strings.Repeat("x", long), api.ErrForm)
		}
	}
	for _, long := range []int{2049, 2050, 2200, 2201, 4096, 1 << 16, 1<<16 + 1, 1 << 20} {
		for _, id := range ids() {
			refused(id, strings.Repeat("x", long), api.ErrLong)
		}
	}
}

// 22.2: New

func TestNew(t *testing.T) {
	numbers := []int{1, 2, 3, 1022, 1023, 1024, 0, -1, -2, -1024, 1025, 1026, 2048, 4096, 1<<16 + 1, 1<<32 + 1, math.MaxInt, math.MinInt, math.MinInt + 1}
	for _, most := range numbers {
		for _, noted := range numbers {
			j, e := parts.New(most, noted)
			_, want := newPlain(most, noted)
			is(t, e, want)
			if (j == nil) != (e != api.OK) {
				t.Fatalf("of %d and %d there is a joiner: %v, beside the error %d", most, noted, j != nil, e)
			}
			if j != nil && j.Waits() != 0 {
				t.Fatalf("of a new joiner %d messages wait", j.Waits())
			}
		}
	}
	for n := -3; n < 1030; n++ {
		want := api.OK
		if n < 1 || n > 1024 {
			want = api.ErrRange
		}
		_, e := parts.New(n, 1)
		is(t, e, want)
		_, e = parts.New(1, n)
		is(t, e, want)
	}
}

// 22.2: no part's text

// TestEachCountAndNumber with pieces of the lengths at the edges.
func TestEachCountAndNumber(t *testing.T) {
	t.Parallel()
	piece := body(1, 300)
	for _, long := range []int{0, 1, 2, 47, 48, 49, 50, 198, 199, 200, 201, 202, 248, 256, 300} {
		for count := range 256 {
			for number := range 256 {
				s := text("an id is", number, count, "digest", piece[:long])
				x := opened(t, 1, 1)
				_, _, e := x.take(s)
				want := api.OK
				// A part that is all of its message has another digest than this.
				if !isPart(s) || count == 1 {
					want = api.ErrPart
				}
				is(t, e, want)
			}
		}
	}
}

// TestEachLengthOfPieces of all parts that there may be, told out by where the part stands.
func TestEachLengthOfPieces(t *testing.T) {
	piece := body(2, 300)
	for count := 1; count <= 11; count++ {
		for number := range count {
			least, most := 200, 200
			if number == count-1 {
				least, most = 1, 200
			}
			if count == 1 {
				least = 0
			}
			if number == 10 {
				most = 48
			}
			for long := range 300 {
				want := api.ErrPart
				if long >= least && long <= most {
					want = api.OK
				}
				whole := digest("an id is", piece[:long])
				_, _, e := opened(t, 1, 1).take(text("an id is", number, count, whole, piece[:long]))
				if e != want {
					t.Fatalf("the part %d of %d, of %d bytes: the error is %d; want %d", number, count, long, e, want)
				}
			}
		}
	}
}

// wrongTexts are no part's, whatever was taken, those of this id among them.
func wrongTexts(id string) (l []string) {
	whole := text(id, 0, 1, digest(id, ""), "")
	for long := range 16 {
		l = append(l, whole[:long], strings.Repeat("\x01", long))
	}
	piece := strings.Repeat("p", 300)
	add := func(number, count, long int) {
		l = append(l, text(id, number, count, digest(id, piece[:long]), piece[:long]))
	}
	for _, count := range []int{0, 12, 13, 16, 127, 128, 129, 254, 255} {
		for _, number := range []int{0, 1, 10, 11, 12, 255} {
			add(number, count, 200)
			add(number, count, 0)
			add(number, count, 17)
		}
	}
	for count := 1; count <= 11; count++ {
		for _, number := range []int{count, count + 1, 128, 129, 255} {
			add(number, count, 200)
			add(number, count, 1)
			add(number, count, 0)
		}
		for number := range count - 1 {
			for _, long := range []int{0, 1, 48, 49, 199, 201, 300} {
				add(number, count, long)
			}
		}
		add(count-1, count, 201)
		add(count-1, count, 202)
		add(count-1, count, 300)
		if count > 1 {
			add(count-1, count, 0)
		}
	}
	for _, long := range []int{49, 50, 199, 200, 201} {
		add(10, 11, long)
	}
	return append(l, strings.Repeat("p", 1<<16), strings.Repeat("\x00", 216), strings.Repeat("\xff", 216))
}

// TestNoPartsText: to a new joiner, beside a message of the id that waits, and of an id that was told.
func TestNoPartsText(t *testing.T) {
	x := opened(t, 2, 2)
	x.refuses(api.ErrPart, wrongTexts("an id is")...)
	x.waits(0)
	x.keeps(partsOf("an id is", 401)[:2]...)
	x.refuses(api.ErrPart, wrongTexts("an id is")...)
	x.refuses(api.ErrPart, wrongTexts("another.")...)
	x.waits(1)
	x.tells(partsOf("an id is", 401)[2], message{"an id is", body(401, 401)})
	x.refuses(api.ErrPart, wrongTexts("an id is")...)
	x.refuses(api.ErrPart, wrongTexts("another.")...)
	x.waits(0)
}

// TestShorterTexts: each beginning of a part's text, and texts of 0 to 16 bytes.
func TestShorterTexts(t *testing.T) {
	for _, long := range []int{0, 1, 200, 201, 2048} {
		for k, s := range partsOf("an id is", long) {
			x := opened(t, 3, 3)
			for end := range len(s) {
				x.take(s[:end])
				x.take(s + s[:end+1])
			}
			if k > 0 || len(s) == 216 {
				x.refuses(api.ErrPart, s[:15], s[:0])
			}
		}
	}
	for long := range 17 {
		for b := range 256 {
			s := strings.Repeat(string([]byte{byte(b)}), long)
			opened(t, 1, 1).refuses(api.ErrPart, s)
		}
	}
	opened(t, 1, 1).tells("an id is\x00\x01\x95\xaa\x30\x94\x40\xbb", message{"an id is", ""})
}

// 22.2: parts that come

// TestInOrder: messages of all lengths, each told with its last part, the joiner going on with the next one.
func TestInOrder(t *testing.T) {
	x := opened(t, 1, 1)
	for long := range 2049 {
		l, e := parts.Cut(id(long), body(long, long))
		is(t, e, api.OK)
		for k, s := range l[:len(l)-1] {
			x.keeps(s)
			x.waits(1)
			x.refuses(api.ErrThere, l[:k+1]...)
		}
		x.tells(l[len(l)-1], message{id(long), body(long, long)})
		x.waits(0)
		x.refuses(api.ErrThere, l...)
	}
}

func TestIdsOfAllBytes(t *testing.T) {
	x := opened(t, 20, 20)
	for _, id := range ids() {
		x.keeps(partsOf(id, 500)[:2]...)
	}
	x.waits(len(ids()))
	for _, id := range ids() {
		x.tells(partsOf(id, 500)[2], message{id, body(500, 500)})
	}
	for _, id := range ids() {
		x.refuses(api.ErrThere, partsOf(id, 500)...)
	}
}

// TestLikeIds: such as differ in one bit alone are another message's, while it waits and when it was told.
func TestLikeIds(t *testing.T) {
	for bit := range 64 {
		other := turned("an id is", bit/8, 1<<(bit%8))
		x := opened(t, 2, 2)
		a, b := partsOf("an id is", 300), partsOf(other, 350)
		x.keeps(a[0], b[1])
		x.waits(2)
		x.tells(a[1], message{"an id is", body(300, 300)})
		x.refuses(api.ErrThere, a...)
		x.tells(b[0], message{other, body(350, 350)})
		x.refuses(api.ErrThere, a...)
		x.refuses(api.ErrThere, b...)
	}
}

// TestThereAlready: each part of a message, while it waits, by its number: also with another piece.
func TestThereAlready(t *testing.T) {
	for _, long := range []int{201, 400, 401, 2048} {
		m := message{"an id is", body(long, long)}
		l := cuts(m)
		for first := range l {
			x := opened(t, 2, 2)
			x.keeps(l[first])
			x.refuses(api.ErrThere, l[first], l[first])
			x.refuses(api.ErrThere, turned(l[first], len(l[first])-1, 1), turned(l[first], 16, 255))
			if first == len(l)-1 && len(l[first]) > 17 {
				x.refuses(api.ErrThere, l[first][:17])
			}
			x.waits(1)
			last := ""
			for k, s := range l {
				if k == first {
					continue
				}
				if last != "" {
					x.keeps(last)
					x.refuses(api.ErrThere, last, l[first])
				}
				last = s
			}
			x.tells(last, m)
			x.refuses(api.ErrThere, l...)
		}
	}
}

// TestAnotherCount: of a part of the same id and digest.
func TestAnotherCount(t *testing.T) {
	m := message{"an id is", body(3, 900)}
	l, sum := cuts(m), digest("an id is", body(3, 900))
	for first := range l {
		x := opened(t, 2, 2)
		x.keeps(l[first])
		for count := range 256 {
			for number := range 12 {
				if count != 5 {
					x.refuses(api.ErrPart, text(m.id, number, count, sum, strings.Repeat("p", 200)), text(m.id, number, count, sum, "p"), text(m.id, number, count, sum, ""))
				}
			}
		}
		x.waits(1)
		x.refuses(api.ErrThere, l[first])
		var rest []string
		for k, s := range l {
			if k != first {
				rest = append(rest, s)
			}
		}
		x.keeps(rest[:3]...)
		x.tells(rest[3], m)
	}
}

// TestAnotherDigest: of a part of the same id and count, which differs in one bit alone; whether its number came or not.
func TestAnotherDigest(t *testing.T) {
	m := message{"an id is", body(4, 500)}
	l := cuts(m)
	for bit := range 48 {
		for first := range l {
			x := opened(t, 2, 2)
			x.keeps(l[first])
			for _, s := range l {
				x.refuses(api.ErrPart, turned(s, 10+bit/8, 1<<(bit%8)))
			}
			x.waits(1)
			x.refuses(api.ErrThere, l[first])
			x.keeps(l[(first+1)%3])
			x.tells(l[(first+2)%3], m)
		}
	}
}

// TestAnotherBody: of two messages of one id the one that comes first is told, the other only once that is told and forgotten.
func TestAnotherBody(t *testing.T) {
	for _, long := range []int{0, 1, 200, 201, 299, 400, 401, 2048} {
		a, b := message{"an id is", body(5, 300)}, message{"an id is", body(6, long)}
		x := opened(t, 2, 1)
		x.keeps(cuts(a)[1])
		x.refuses(api.ErrPart, cuts(b)...)
		x.tells(cuts(a)[0], a)
		x.refuses(api.ErrThere, cuts(b)...)
		x.tellsAll(message{"another.", ""})
		x.tellsAll(b)
		x.refuses(api.ErrThere, cuts(a)...)
	}
}

// TestTakeRefusesInOrder: where several errors apply, the first one by the chapter.
func TestTakeRefusesInOrder(t *testing.T) {
	m := message{"an id is", body(7, 500)}
	l := cuts(m)
	other := text(m.id, 1, 4, "digest", strings.Repeat("p", 200))
	x := opened(t, 2, 2)
	x.keeps(l[0], l[1])
	// Its number is there, but its count, or its digest, is another one.
	x.refuses(api.ErrPart, other, turned(l[0], 10, 1), turned(l[1], 9, 1), turned(l[0], 15, 128))
	// Its number is there, but it is no part's text.
	x.refuses(api.ErrPart, l[0]+"x", l[0][:215], l[1][:16], l[2][:16])
	x.tells(l[2], m)
	// Its id was told, and its count, or its digest, is another one than the message had.
	x.refuses(api.ErrThere, other, turned(l[0], 10, 1), turned(l[1], 9, 1), forged(m.id, 20)[0])
	// Its id was told, but it is no part's text.
	x.refuses(api.ErrPart, l[0]+"x", l[0][:215], l[1][:16], l[2][:16])
}

// TestNotTheirDigest: a message whose parts are all there is forgotten, and not noted: its parts may come anew.
func TestNotTheirDigest(t *testing.T) {
	for _, long := range []int{0, 1, 199, 200, 201, 400, 401, 2000, 2001, 2048} {
		m := message{"an id is", body(long, long)}
		good, bad := cuts(m), forged(m.id, long)
		x := opened(t, 2, 2)
		for range 3 {
			for k, s := range bad[:len(bad)-1] {
				x.keeps(s)
				x.refuses(api.ErrPart, good...)
				x.refuses(api.ErrThere, bad[:k+1]...)
			}
			x.refuses(api.ErrPart, bad[len(bad)-1])
			x.waits(0)
		}
		x.tellsAll(m)
		x.refuses(api.ErrThere, good...)
		x.refuses(api.ErrThere, bad...)
		x.waits(0)
	}
}

// TestTurnedPieces: each byte of one of the pieces turned; then the message comes anew, whole.
func TestTurnedPieces(t *testing.T) {
	m := message{"an id is", body(8, 450)}
	l := cuts(m)
	for which := range l {
		for at := 16; at < len(l[which]); at++ {
			x := opened(t, 1, 1)
			for k, s := range l {
				if k == which {
					s = turned(s, at, 1<<(at%8))
				}
				if k == 2 {
					x.refuses(api.ErrPart, s)
				} else {
					x.keeps(s)
				}
			}
			x.waits(0)
			x.tellsAll(m)
		}
	}
}

// TestPiecesOfAnotherBody: of the same length and digest, in another order, or one of them twice.
func TestPiecesOfAnotherBody(t *testing.T) {
	m := message{"an id is", body(9, 800)}
	l := cuts(m)
	for play := range 256 {
		var pieces []string
		straight := true
		for k := range 4 {
			from := play >> (2 * k) % 4
			pieces = append(pieces, text(m.id, k, 4, l[0][10:16], l[from][16:]))
			straight = straight && from == k
		}
		x := opened(t, 1, 1)
		x.keeps(pieces[:3]...)
		if straight {
			x.tells(pieces[3], m)
			continue
		}
		x.refuses(api.ErrPart, pieces[3])
		x.tellsAll(m)
	}
}

// TestOtherDigests: those of the body alone, and of others than the id and the whole body, are not the message's.
func TestOtherDigests(t *testing.T) {
	m := message{"an id is", body(10, 150)}
	sums := []string{digest("", m.body), digest(m.id, ""), digest(m.body, m.id), digest("another.", m.body), digest(m.id, m.body+"x"), digest(m.id, m.body[:149]), digest("", ""), digest(digest(m.id, m.body), ""), "digest", "\x00\x00\x00\x00\x00\x00"}
	if s := hash.Bind(m.id, m.body); s != "" {
		sums = append(sums, s[:6])
	}
	sums = append(sums, hash.Sum(m.id, m.body)[6:12], hash.Sum(m.id, m.body)[26:])
	x := opened(t, 1, 1)
	for _, sum := range sums {
		x.refuses(api.ErrPart, text(m.id, 0, 1, sum, m.body))
	}
	x.tellsAll(m)
}

// 22.2: what is forgotten

// TestOldestIsForgotten: the one that began first, though parts of it came later.
func TestOldestIsForgotten(t *testing.T) {
	a, b, c, d := partsOf("a.......", 500), partsOf("b.......", 500), partsOf("c.......", 500), partsOf("d.......", 500)
	x := opened(t, 3, 3)
	x.keeps(a[0], b[0], c[0])
	x.waits(3)
	x.keeps(b[1], a[1])
	x.refuses(api.ErrThere, a[0], b[0], c[0])
	x.keeps(d[2]) // a is forgotten
	x.waits(3)
	x.tells(b[2], message{"b.......", body(500, 500)})
	x.waits(2)
	x.keeps(a[2]) // a begins anew: there is room
	x.waits(3)
	x.keeps(c[2], d[0])
	x.tells(c[1], message{"c.......", body(500, 500)})
	x.keeps(a[1])
	x.tells(d[1], message{"d.......", body(500, 500)})
	x.waits(1)
	x.tells(a[0], message{"a.......", body(500, 500)})
	x.waits(0)
}

// TestForgottenBeginsAnew: what came of it is gone, its count and digest too.
func TestForgottenBeginsAnew(t *testing.T) {
	a, b := message{"an id is", body(11, 900)}, message{"an id is", body(12, 300)}
	x := opened(t, 1, 4)
	x.keeps(cuts(a)[:4]...)
	x.keeps(partsOf("another.", 300)[0])
	x.waits(1)
	x.keeps(cuts(a)[4])
	x.waits(1)
	x.keeps(cuts(a)[0], cuts(a)[2], cuts(a)[3])
	x.keeps(partsOf("another.", 300)[0])
	x.refuses(api.ErrThere, partsOf("another.", 300)[0])
	x.keeps(cuts(b)[1])
	x.refuses(api.ErrPart, cuts(a)...)
	x.tells(cuts(b)[0], b)
	x.waits(0)
}

// TestOneOfMost: in each place, what is whole leaves the others where they are.
func TestOneOfMost(t *testing.T) {
	for which := range 5 {
		for gone := range 5 {
			x := opened(t, 5, 5)
			for k := range 5 {
				x.keeps(partsOf(id(k), 300)[0])
			}
			x.tells(partsOf(id(which), 300)[1], message{id(which), body(300, 300)})
			x.waits(4)
			for k := range gone {
				x.keeps(partsOf(id(10+k), 300)[1])
			}
			x.waits(min(4+gone, 5))
			// The oldest of those that are left are forgotten, all but one of the new ones.
			for k, forgotten := 0, gone-1; k < 5; k++ {
				if k == which {
					continue
				}
				if forgotten > 0 {
					forgotten--
					continue
				}
				x.tells(partsOf(id(k), 300)[1], message{id(k), body(300, 300)})
			}
		}
	}
}

// TestMost: with room for so many, the first is forgotten for one more; then the next ones, in turn.
func TestMost(t *testing.T) {
	for _, most := range []int{1, 2, 3, 16, 1023, 1024} {
		x := opened(t, most, 1024)
		for k := range most {
			x.keeps(partsOf(id(k), 201)[1])
			x.waits(k + 1)
		}
		for k := range most {
			x.refuses(api.ErrThere, partsOf(id(k), 201)[1])
		}
		for k := range 5 {
			x.keeps(partsOf(id(most+k), 201)[1])
			x.waits(most)
		}
		for k := most + 4; k >= max(5, most-3); k-- {
			x.tells(partsOf(id(k), 201)[0], message{id(k), body(201, 201)})
		}
		waits := x.j.Waits()
		x.keeps(partsOf(id(0), 201)[0], partsOf(id(4), 201)[0])
		x.waits(min(waits+2, most))
	}
}

// TestAllOfMostAreTold, the first ones first, or the last ones.
func TestAllOfMostAreTold(t *testing.T) {
	for _, backwards := range []bool{false, true} {
		x := opened(t, 1024, 1024)
		for k := range 1024 {
			x.keeps(partsOf(id(k), 201)[0])
		}
		for k := range 1024 {
			if backwards {
				k = 1023 - k
			}
			x.tells(partsOf(id(k), 201)[1], message{id(k), body(201, 201)})
		}
		x.waits(0)
		for k := range 1024 {
			x.refuses(api.ErrThere, partsOf(id(k), 201)[0])
		}
	}
}

// TestOnePartTakesAPlace: where most wait, the oldest is forgotten for a message that is whole with its first part, told or not.
func TestOnePartTakesAPlace(t *testing.T) {
	for _, most := range []int{1, 2, 5} {
		for _, bad := range []bool{false, true} {
			for many := range most + 1 {
				x := opened(t, most, 5)
				for k := range many {
					x.keeps(partsOf(id(k), 300)[0])
				}
				if bad {
					x.refuses(api.ErrPart, forged("one part", 9)...)
				} else {
					x.tellsAll(message{"one part", "that is all"})
				}
				x.waits(min(many, most-1))
				for k := many - 1; k >= many-min(many, most-1); k-- {
					x.refuses(api.ErrThere, partsOf(id(k), 300)[0])
					x.tells(partsOf(id(k), 300)[1], message{id(k), body(300, 300)})
				}
				if many == most {
					x.keeps(partsOf(id(0), 300)[0])
				}
			}
		}
	}
}

// TestNothingIsForgottenForWhatIsRefused, though most wait, and as many as may be are noted.
func TestNothingIsForgottenForWhatIsRefused(t *testing.T) {
	x := opened(t, 2, 1)
	a, b, told := partsOf("a.......", 500), partsOf("b.......", 500), message{"told ...", "x"}
	x.tellsAll(told)
	x.keeps(a[0], b[2], a[1])
	for range 3 {
		x.refuses(api.ErrPart, wrongTexts("new one.")...)
		x.refuses(api.ErrPart, forged("a.......", 500)...)
		x.refuses(api.ErrPart, cuts(message{"b.......", "x"})...)
		x.refuses(api.ErrThere, a[0], a[1], b[2])
		x.refuses(api.ErrThere, cuts(told)...)
		x.refuses(api.ErrThere, partsOf("told ...", 700)...)
		x.waits(2)
	}
	x.tells(a[2], message{"a.......", body(500, 500)})
	x.keeps(b[0])
	x.tells(b[1], message{"b.......", body(500, 500)})
}

// TestNoted: the ids that were told last are known, all others may be told anew.
func TestNoted(t *testing.T) {
	for _, noted := range []int{1, 2, 3, 64, 1023, 1024} {
		x := opened(t, 1, noted)
		for k := range noted {
			x.tellsAll(message{id(k), body(k, 3)})
		}
		for k := range noted {
			x.refuses(api.ErrThere, cuts(message{id(k), body(k, 3)})...)
			x.refuses(api.ErrThere, partsOf(id(k), 500)...)
		}
		x.tellsAll(message{id(noted), body(noted, 3)})
		for k := noted; k > 0; k-- {
			x.refuses(api.ErrThere, cuts(message{id(k), body(k, 3)})...)
		}
		// The first one is forgotten: told anew, it is the last one, and the next is forgotten.
		for k := range min(noted, 5) {
			x.tellsAll(message{id(k), body(k, 201+k)})
			x.refuses(api.ErrThere, partsOf(id(k), 201+k)...)
			if k+2 <= noted {
				x.refuses(api.ErrThere, cuts(message{id(k + 2), body(k+2, 3)})...)
			}
		}
	}
}

// TestNotedByTelling: the order is that in which messages were told, not that in which they began; what comes again changes nothing of it.
func TestNotedByTelling(t *testing.T) {
	a, b, c := partsOf("a.......", 300), partsOf("b.......", 300), partsOf("c.......", 300)
	told := func(id string) message { return message{id, body(300, 300)} }
	x := opened(t, 3, 2)
	x.keeps(a[0], b[0], c[0])
	x.tells(c[1], told("c......."))
	x.tells(a[1], told("a......."))
	x.refuses(api.ErrThere, c...)
	x.refuses(api.ErrThere, c...)
	x.tells(b[1], told("b......."))
	x.refuses(api.ErrThere, a...)
	x.refuses(api.ErrThere, b...)
	x.keeps(c[1])
	x.refuses(api.ErrThere, c[1])
	x.tells(c[0], told("c......."))
	x.refuses(api.ErrThere, b...)
	x.refuses(api.ErrThere, c...)
	x.tellsAll(told("a......."))
}

// TestRoomsDoNotHangTogether: how many ids are noted changes nothing of the messages that wait, nor the other way round.
func TestRoomsDoNotHangTogether(t *testing.T) {
	x := opened(t, 1, 3)
	for k := range 10 {
		x.tellsAll(message{id(k), body(k, 250)})
	}
	x.refuses(api.ErrThere, partsOf(id(9), 3)[0], partsOf(id(8), 3)[0], partsOf(id(7), 3)[0])
	x.keeps(partsOf(id(6), 700)[0])
	y := opened(t, 3, 1)
	for k := range 3 {
		y.keeps(partsOf(id(k), 250)[0])
	}
	y.waits(3)
	for k := range 3 {
		y.tells(partsOf(id(k), 250)[1], message{id(k), body(250, 250)})
		if k > 0 {
			y.keeps(partsOf(id(k-1), 250)[0])
		}
	}
	y.waits(2)
}

// 22.3

func TestWaits(t *testing.T) {
	x := opened(t, 10, 10)
	for k := range 10 {
		x.keeps(partsOf(id(k), 2048)[k])
		x.waits(k + 1)
		x.keeps(partsOf(id(k), 2048)[10])
		x.waits(k + 1)
	}
	x.tellsAll(message{"one part", "forgets the first"})
	x.waits(9)
	for k := 1; k < 10; k++ {
		for number, s := range partsOf(id(k), 2048)[:10] {
			if number != k {
				x.waits(10 - k)
				x.take(s)
			}
		}
		x.waits(9 - k)
	}
}

// 22.4

// orders calls by each order of so many numbers.
func orders(many int, by func(order []int)) {
	var place func(order []int)
	place = func(order []int) {
		if len(order) == many {
			by(order)
			return
		}
		for k := range many {
			if !slices.Contains(order, k) {
				place(append(slices.Clone(order), k))
			}
		}
	}
	place(nil)
}

// TestEachOrder of the parts of messages of up to six.
func TestEachOrder(t *testing.T) {
	for _, long := range []int{0, 200, 201, 400, 401, 777, 1000, 1111} {
		m := message{"an id is", body(long, long)}
		l := cuts(m)
		orders(len(l), func(order []int) {
			x := opened(t, 1, 1)
			for k, number := range order {
				if k == len(l)-1 {
					x.tells(l[number], m)
				} else {
					x.keeps(l[number])
				}
			}
			x.refuses(api.ErrThere, l...)
		})
	}
}

// TestAsOftenAsOneLikes: all plays of seven parts out of three: told once, with the first that makes it whole.
func TestAsOftenAsOneLikes(t *testing.T) {
	m := message{"an id is", body(13, 555)}
	l := cuts(m)
	for play := range 3 * 3 * 3 * 3 * 3 * 3 * 3 {
		x := opened(t, 1, 1)
		came := map[int]bool{}
		for n, k := play, 0; k < 7; n, k = n/3, k+1 {
			number := n % 3
			there := came[number]
			came[number] = true
			switch {
			case there:
				x.refuses(api.ErrThere, l[number])
			case len(came) == 3:
				x.tells(l[number], m)
			default:
				x.keeps(l[number])
			}
		}
	}
}

// TestMixedOrders: parts of several messages of all lengths, each some times, in drawn orders: each message is told once, whole, as its body was.
func TestMixedOrders(t *testing.T) {
	t.Parallel()
	for seed := range 200 {
		by := rand.New(rand.NewSource(int64(seed)))
		x := opened(t, 20, 20)
		var all []string
		want := map[string]string{}
		for k := range 1 + by.Intn(20) {
			m := message{id(k), drawnText(by, by.Intn(2049))}
			want[m.id] = m.body
			l, e := parts.Cut(m.id, m.body)
			is(t, e, api.OK)
			for _, s := range l {
				for range 1 + by.Intn(3) {
					all = append(all, s)
				}
			}
		}
		by.Shuffle(len(all), func(i, k int) { all[i], all[k] = all[k], all[i] })
		told := map[string]int{}
		for _, s := range all {
			if m, whole, _ := x.take(s); whole {
				told[m.Id]++
				if m.Body != want[m.Id] {
					t.Fatalf("of %q %q was told; want %q", m.Id, m.Body, want[m.Id])
				}
			}
		}
		for id := range want {
			if told[id] != 1 {
				t.Fatalf("%q was told %d times", id, told[id])
			}
		}
		x.waits(0)
	}
}

// TestSomeDoNotCome: a message of which any part does not come is not told, and waits.
func TestSomeDoNotCome(t *testing.T) {
	for _, long := range []int{201, 400, 401, 1999, 2001, 2048} {
		l := partsOf("an id is", long)
		for without := range l {
			x := opened(t, 2, 2)
			for k, s := range slices.Concat(l, l) {
				if k%len(l) == without {
					continue
				}
				if _, whole, _ := x.take(s); whole {
					t.Fatalf("without the part %d it is told", without)
				}
			}
			x.waits(1)
			x.tells(l[without], message{"an id is", body(long, long)})
		}
	}
}

func ExampleCut() {
	l, e := parts.Cut("an id is", strings.Repeat("x", 201))
	fmt.Println(len(l), len(l[0]), len(l[1]), e)
	// Output: 2 216 17 0
}
