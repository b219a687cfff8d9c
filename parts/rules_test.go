package parts_test

import (
	"fmt"
	"math/rand"
	"slices"
	"strings"
	"sync"
	"testing"
	"unsafe"

	"dovecote/api"
	"dovecote/parts"
)

// Mixtures.

// lengths are those of bodies, mostly at the edges.
func lengths() []int {
	return []int{0, 1, 60, 199, 200, 201, 399, 400, 401, 650, 1000, 1999, 2000, 2001, 2047, 2048}
}

// drawnMessage is one of few ids, which have few bodies each.
func drawnMessage(by *rand.Rand, ids int) message {
	l := lengths()
	k := by.Intn(ids)
	return message{id(k), body(k, l[(5*k+by.Intn(2)*by.Intn(3))%len(l)])}
}

// spoilt is the part's text, with something in it changed.
func spoilt(by *rand.Rand, s string) string {
	switch by.Intn(9) {
	case 0:
		return turned(s, by.Intn(len(s)), 1<<by.Intn(8))
	case 1:
		return s[:by.Intn(len(s))]
	case 2:
		return s + drawnText(by, 1+by.Intn(3))
	case 3:
		return turned(s, 8, byte(by.Intn(12)))
	case 4:
		return turned(s, 9, byte(by.Intn(16)))
	case 5:
		return turned(s, 10+by.Intn(6), byte(1+by.Intn(255)))
	case 6:
		return text(id(by.Intn(4)), by.Intn(13), by.Intn(13), drawnText(by, 6), drawnText(by, []int{0, 1, 48, 49, 199, 200, 201}[by.Intn(7)]))
	case 7:
		return drawnText(by, []int{0, 1, 15, 16, 17, 216, 217}[by.Intn(7)])
	}
	if len(s) > 16 {
		return turned(s, 16+by.Intn(len(s)-16), byte(1+by.Intn(255)))
	}
	return s
}

// play is a joiner, and parts on their way to it.
type play struct {
	*pair
	ids, spoils int
	way         []string
}

// sends brings the parts of a drawn message on their way: some of them twice, some not at all, some spoilt; now and then all of them have a digest that is not theirs.
func (x *play) sends(by *rand.Rand) {
	m := drawnMessage(by, x.ids)
	l := cuts(m)
	if x.spoils > 0 && by.Intn(8) == 0 {
		l = forged(m.id, len(m.body))
	}
	for _, s := range l {
		if x.spoils > 0 && by.Intn(x.spoils) == 0 {
			s = spoilt(by, s)
		}
		for range []int{0, 1, 1, 1, 1, 1, 1, 1, 1, 1, 1, 1, 2, 3}[by.Intn(14)] {
			x.way = append(x.way, s)
		}
	}
}

// takes the next one of those on their way, mostly in order.
func (x *play) takes(by *rand.Rand) (parts.Told, bool, api.Errno) {
	x.t.Helper()
	for len(x.way) == 0 {
		x.sends(by)
	}
	at := 0
	if by.Intn(2) == 0 {
		at = by.Intn(min(len(x.way), 12))
	}
	s := x.way[at]
	if by.Intn(10) > 0 {
		x.way = slices.Delete(x.way, at, at+1)
	}
	return x.take(s)
}

// TestAsPlain: each answer, and how many messages wait behind it, are those of a plain joiner.
func TestAsPlain(t *testing.T) {
	t.Parallel()
	said, wholes := map[api.Errno]int{}, 0
	for k := range 300 {
		by := rand.New(rand.NewSource(int64(k)))
		most, noted := []int{1, 2, 3, 5, 9, 1024}[k%6], []int{1, 2, 4, 7, 1024}[k%5]
		x := &play{opened(t, most, noted), []int{2, 4, 8, 12, 40}[k%5], []int{0, 0, 60, 20}[k%4], nil}
		for range 400 {
			for range by.Intn(3) {
				if len(x.way) < 60 {
					x.sends(by)
				}
			}
			_, whole, e := x.takes(by)
			said[e]++
			if whole {
				wholes++
			}
		}
	}
	for _, e := range []api.Errno{api.OK, api.ErrPart, api.ErrThere} {
		if said[e] < 3000 {
			t.Errorf("the error %d was told %d times: too few", e, said[e])
		}
	}
	if wholes < 3000 || len(said) != 3 {
		t.Errorf("%d messages were told, the errors %v", wholes, said)
	}
}

// TestShortPlays: all plays of five of these parts, with little room.
func TestShortPlays(t *testing.T) {
	t.Parallel()
	a, b := partsOf("a.......", 201), partsOf("b.......", 201)
	calls := []string{
		a[0], a[1], b[0], b[1],
		partsOf("c.......", 3)[0],
		partsOf("a.......", 3)[0],
		forged("a.......", 201)[0],
		forged("b.......", 201)[1],
		forged("d.......", 3)[0],
	}
	many := 1
	for range 5 {
		many *= len(calls)
	}
	for play := range 4 * many {
		x := &pair{t: t}
		x.j, _ = parts.New(1+play%4/2, 1+play%2)
		x.p, _ = newPlain(1+play%4/2, 1+play%2)
		for n, k := play/4, 0; k < 5; n, k = n/len(calls), k+1 {
			x.take(calls[n%len(calls)])
		}
	}
}

// Rules that hold everywhere.

// refusedCalls asks for what is refused, whatever came.
func refusedCalls(t *testing.T, x *pair) {
	t.Helper()
	x.refuses(api.ErrPart, wrongTexts(id(1))...)
	for _, m := range x.p.waits {
		for number := range m.pieces {
			x.refuses(api.ErrThere, text(m.id, number, m.count, m.digest, m.pieces[number]))
		}
		for number := range m.count {
			long := 200
			if number == m.count-1 {
				long = 1
			}
			x.refuses(api.ErrPart, text(m.id, number, m.count, turned(m.digest, number%6, 1), strings.Repeat("p", long)))
		}
		x.refuses(api.ErrPart, text(m.id, m.count-1, m.count+1, m.digest, strings.Repeat("p", 200)), text(m.id, 0, 1, m.digest, ""))
	}
	for _, id := range x.p.told {
		x.refuses(api.ErrThere, partsOf(id, 0)...)
		x.refuses(api.ErrThere, forged(id, 2048)...)
	}
	for _, n := range []int{0, 1025} {
		_, e := parts.New(n, n)
		is(t, e, api.ErrRange)
	}
	_, e := parts.Cut("short", "")
	is(t, e, api.ErrForm)
	_, e = parts.Cut(id(1), strings.Repeat("x", 2049))
	is(t, e, api.ErrLong)
}

// TestRefusedCallsChangeNothing plays the same calls with two joiners, one of them with refused ones between.
func TestRefusedCallsChangeNothing(t *testing.T) {
	t.Parallel()
	for k := range 12 {
		most, noted := []int{1, 2, 5}[k%3], []int{1, 2, 5}[k/3%3]
		calm, x := &play{opened(t, most, noted), 5, 0, nil}, &play{opened(t, most, noted), 5, 0, nil}
		for step := range 150 {
			refusedCalls(t, x.pair)
			seed := int64(1000*k + step)
			told, whole, e := calm.takes(rand.New(rand.NewSource(seed)))
			again, wholeAgain, ae := x.takes(rand.New(rand.NewSource(seed)))
			if told != again || whole != wholeAgain || e != ae || calm.j.Waits() != x.j.Waits() {
				t.Fatalf("%q, %v, error %d was told, with refused calls between %q, %v, error %d", told, whole, e, again, wholeAgain, ae)
			}
		}
	}
}

// TestZeroBesideErrors: beside an error, and beside a false, all else is its zero value.
func TestZeroBesideErrors(t *testing.T) {
	j, _ := parts.New(1, 1)
	takes := func(want api.Errno, l ...string) {
		t.Helper()
		for _, s := range l {
			if told, whole, e := j.Take(s); told != (parts.Told{}) || whole || e != want {
				t.Fatalf("the answer is %q, %v, error %d; want the error %d alone", told, whole, e, want)
			}
		}
	}
	l := partsOf(id(1), 450)
	takes(api.ErrPart, wrongTexts(id(1))...)
	takes(api.OK, l[0], l[2])
	takes(api.ErrThere, l[0], l[2])
	takes(api.ErrPart, forged(id(1), 450)...)
	if told, whole, e := j.Take(l[1]); told != (parts.Told{Id: id(1), Body: body(450, 450)}) || !whole || e != api.OK {
		t.Fatalf("the answer is %q, %v, error %d", told, whole, e)
	}
	takes(api.ErrThere, l...)
	takes(api.ErrPart, forged(id(2), 5)...)
	bad := forged(id(2), 250)
	takes(api.OK, bad[1])
	takes(api.ErrPart, bad[0])
}

// in is a text in memory of its own, which is told beside it.
func in(s string) (string, []byte) {
	b := []byte(s)
	return unsafe.String(unsafe.SliceData(b), len(b)), b
}

// spoil writes a text over, as no program of the language could. One of a single byte may lie in a table of the language's own, and stays.
func spoil(s string) {
	if len(s) < 2 {
		return
	}
	b := unsafe.Slice(unsafe.StringData(s), len(s))
	for i := range b {
		b[i] = '?'
	}
}

// fresh is the same text in memory that may be written over.
func fresh(s string) string { return string([]byte(s)) }

// TestNothingHandedInIsChanged: the bytes of all texts are as they were, and what lies behind them.
func TestNothingHandedInIsChanged(t *testing.T) {
	same := func(b []byte, s string) {
		t.Helper()
		if string(b) != s {
			t.Fatalf("it is %q; it was %q", b, s)
		}
	}
	for _, long := range append(lengths(), 2049, 5000) {
		id, idBytes := in("an id is, and more")
		body, bodyBytes := in(body(long, long) + "behind")
		l, _ := parts.Cut(id[:8], body[:long])
		parts.Cut(id, body)
		same(idBytes, "an id is, and more")
		same(bodyBytes, body)
		same(bodyBytes[long:], "behind")
		x := opened(t, 1, 1)
		for _, s := range slices.Concat(l, l) {
			part, b := in(s + "behind")
			x.take(part[:len(s)])
			x.take(part)
			same(b, s+"behind")
		}
		for _, s := range l {
			spoil(s)
		}
		same(bodyBytes, body)
		same(idBytes, "an id is, and more")
	}
	for _, s := range wrongTexts("an id is") {
		part, b := in(s)
		opened(t, 1, 1).take(part)
		same(b, fresh(s))
	}
}

// TestCutIsNewMemory: what was handed in is written over, then one answer; another one stays as it was, and so do the texts of one list beside each other.
func TestCutIsNewMemory(t *testing.T) {
	for _, long := range lengths() {
		id, text := fresh("an id is"), fresh(body(long, long))
		want := cuts(message{"an id is", body(long, long)})
		a, _ := parts.Cut(id, text)
		b, _ := parts.Cut(id, text)
		spoil(id)
		spoil(text)
		whole := a[:cap(a)]
		for i := range whole {
			if i < len(a) {
				spoil(a[i])
				if !slices.Equal(a[i+1:], want[i+1:]) {
					t.Fatalf("with the part %d those behind it are written over", i)
				}
			}
			whole[i] = "changed"
		}
		if !slices.Equal(b, want) {
			t.Fatalf("the parts are %q; want %q", b, want)
		}
	}
}

// TestNothingIsShared: parts are written over once they were taken, and what was told once it was told; the joiner has it still.
func TestNothingIsShared(t *testing.T) {
	for _, long := range lengths() {
		m := message{"an id is", body(long, long)}
		x := opened(t, 2, 2)
		x.keeps(partsOf("another.", 201)[0])
		var told parts.Told
		for _, s := range cuts(m) {
			s = fresh(s)
			told, _, _ = x.j.Take(s)
			spoil(s)
		}
		if told.Id != m.id || told.Body != m.body {
			t.Fatalf("%q was told; want %q", told, m)
		}
		spoil(told.Body)
		if told.Id != m.id {
			t.Fatal("id and body share memory")
		}
		spoil(told.Id)
		for _, s := range cuts(m) {
			_, _, e := x.j.Take(s)
			is(t, e, api.ErrThere)
		}
		again, whole, e := x.j.Take(partsOf("another.", 201)[1])
		if again.Body != body(201, 201) || !whole || e != api.OK {
			t.Fatalf("%q was told, %v, error %d", again, whole, e)
		}
		is(t, e, api.OK)
		if x.j.Waits() != 0 {
			t.Fatalf("%d messages wait", x.j.Waits())
		}
	}
}

// TestRefusedIsNotKept: a part that is refused, or told, is written over: that changes nothing.
func TestRefusedIsNotKept(t *testing.T) {
	l := partsOf("an id is", 500)
	x := opened(t, 1, 1)
	for _, s := range []string{l[0], l[0], l[2], turned(l[1], 12, 4), l[2]} {
		s = fresh(s)
		x.take(s)
		spoil(s)
	}
	x.tells(l[1], message{"an id is", body(500, 500)})
	s := fresh(l[1])
	x.refuses(api.ErrThere, s)
	spoil(s)
	x.refuses(api.ErrThere, l...)
}

// TestAsksChangeNothing: neither how many wait, nor what is cut beside it.
func TestAsksChangeNothing(t *testing.T) {
	x := opened(t, 2, 2)
	for _, s := range partsOf("an id is", 2048)[:10] {
		x.keeps(s)
		for range 20 {
			x.waits(1)
			parts.Cut("an id is", "another body")
			parts.New(1, 1)
		}
	}
	x.tells(partsOf("an id is", 2048)[10], message{"an id is", body(2048, 2048)})
}

// TestJoinersDoNotKnowOfOneAnother, though the same parts come to them.
func TestJoinersDoNotKnowOfOneAnother(t *testing.T) {
	m := message{"an id is", body(500, 500)}
	l := cuts(m)
	a, b := opened(t, 1, 1), opened(t, 1, 1)
	a.keeps(l[0], l[1])
	b.waits(0)
	b.keeps(l[2])
	a.tells(l[2], m)
	b.waits(1)
	b.keeps(l[0])
	a.refuses(api.ErrThere, l...)
	b.tells(l[1], m)
	c := opened(t, 1, 1)
	c.keeps(l[0], l[1])
	a.tellsAll(message{"another.", "x"})
	b.refuses(api.ErrThere, l...)
	a.keeps(l[0])
	c.tells(l[2], m)
	a.waits(1)
	by := rand.New(rand.NewSource(22))
	plays := []*play{{a, 4, 0, nil}, {b, 4, 30, nil}, {c, 6, 0, nil}, {opened(t, 3, 2), 4, 30, nil}}
	for range 2000 {
		plays[by.Intn(4)].takes(by)
		for _, x := range plays {
			x.waits(len(x.p.waits))
		}
	}
}

// TestEndsAtAllArguments: none of the calls panics, and each tells what the plain one does.
func TestEndsAtAllArguments(t *testing.T) {
	t.Parallel()
	by := rand.New(rand.NewSource(99))
	x := opened(t, 3, 3)
	for range 60000 {
		s := drawnText(by, by.Intn(240))
		if len(s) > 9 && by.Intn(3) > 0 {
			s = id(by.Intn(6)) + string([]byte{byte(by.Intn(13)), byte(by.Intn(13))}) + s[min(10, len(s)):]
		}
		x.take(s)
		id, body := drawnText(by, []int{0, 7, 8, 8, 8, 9}[by.Intn(6)]), drawnText(by, by.Intn(60)*by.Intn(40))
		l, e := parts.Cut(id, body)
		want, we := cut(id, body)
		is(t, e, we)
		if !slices.Equal(l, want) {
			t.Fatalf("the parts of %q and %q are %q; want %q", id, body, l, want)
		}
		n, k := by.Intn(2100)-30, by.Int()-by.Int()
		for _, c := range [][2]int{{n, k}, {k, n}, {n, n}} {
			_, e := parts.New(c[0], c[1])
			_, we := newPlain(c[0], c[1])
			is(t, e, we)
		}
	}
	long := strings.Repeat("l", 1<<20)
	x.refuses(api.ErrPart, long, partsOf("an id is", 200)[0]+long)
	_, e := parts.Cut(long, long)
	is(t, e, api.ErrForm)
	_, e = parts.Cut(long[:8], long)
	is(t, e, api.ErrLong)
}

// TestSameCallsTellTheSame, again and again, and at the same time.
func TestSameCallsTellTheSame(t *testing.T) {
	t.Parallel()
	plays := func() string {
		by := rand.New(rand.NewSource(4))
		var said strings.Builder
		x := &play{opened(t, 3, 3), 6, 20, nil}
		for range 500 {
			told, whole, e := x.takes(by)
			l, ce := parts.Cut(id(by.Intn(9)), drawnText(by, by.Intn(2100)))
			fmt.Fprintf(&said, "%x %x %v %d %d %x %d\n", told.Id, told.Body, whole, e, x.j.Waits(), l, ce)
		}
		return said.String()
	}
	want := plays()
	var everyone sync.WaitGroup
	said := make([]string, 8)
	for k := range said {
		everyone.Go(func() { said[k] = plays() })
	}
	everyone.Wait()
	for _, s := range said {
		if s != want {
			t.Fatal("another answer")
		}
	}
}
