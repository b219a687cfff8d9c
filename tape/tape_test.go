package tape_test

import (
	"encoding/binary"
	"fmt"
	"math"
	"math/big"
	"math/rand"
	"runtime"
	"slices"
	"strings"
	"sync"
	"testing"
	"unsafe"

	"dovecote/api"
	"dovecote/tape"
)

const (
	belowMost = 1<<31 - 1
	bytesMost = 4096
	orderMost = 64
)

// drawn is a text of so many bytes, the same one in each run.
func drawn(seed int64, many int) string {
	b := make([]byte, many)
	rand.New(rand.NewSource(seed)).Read(b)
	return string(b)
}

func zeros(many int) string { return strings.Repeat("\x00", many) }

func fulls(many int) string { return strings.Repeat("\xff", many) }

// words is the texts of numbers, four bytes each, the highest first.
func words(l ...uint32) string {
	var b []byte
	for _, d := range l {
		b = binary.BigEndian.AppendUint32(b, d)
	}
	return string(b)
}

// picks is the least word whose draw below n is j: j 2^32 / n, made whole upward.
func picks(j, n int) uint32 {
	x := new(big.Int).Lsh(big.NewInt(int64(j)), 32)
	x.Add(x, big.NewInt(int64(n-1)))
	return uint32(x.Div(x, big.NewInt(int64(n))).Uint64())
}

// wrongBelow, wrongBytes and wrongOrders are numbers that the calls refuse.
func wrongBelow() []int {
	return append(farOff(), 0, 1<<31, 1<<31+1, 1<<32, 1<<32+1, 1<<32-1, 1<<40)
}

func wrongBytes() []int {
	return append(farOff(), 4097, 4098, 5000, 8192, 1<<16, 1<<31-1, 1<<31, 1<<32, 1<<32+1)
}

func wrongOrders() []int {
	return append(farOff(), 65, 66, 128, 256, 320, 1<<16, 1<<31-1, 1<<31, 1<<32, 1<<32+1)
}

func farOff() []int {
	return []int{-1, -2, -4, -64, -4096, -4097, -1 << 31, -1<<31 - 1, -1 << 32, 1 - 1<<32, math.MinInt, math.MinInt + 1, math.MinInt / 4, math.MaxInt, math.MaxInt - 1, math.MaxInt/4 + 1, math.MaxInt/4 + 2, 1 << 62, 1<<62 + 1}
}

// plain is a tape by the chapter's words: it has what is left, and reckons in numbers of any length.
type plain struct{ left string }

func (p *plain) read(n int) string {
	s := p.left[:n]
	p.left = p.left[n:]
	return s
}

func (p *plain) draw(n int) int {
	x := new(big.Int).SetBytes([]byte(p.read(4)))
	x.Mul(x, big.NewInt(int64(n)))
	return int(x.Div(x, big.NewInt(1<<32)).Int64())
}

func (p *plain) below(n int) (int, api.Errno) {
	switch {
	case n < 1 || n > belowMost:
		return 0, api.ErrRange
	case len(p.left) < 4:
		return 0, api.ErrTape
	}
	return p.draw(n), api.OK
}

func (p *plain) word() (int, api.Errno) {
	if len(p.left) < 4 {
		return 0, api.ErrTape
	}
	return int(new(big.Int).SetBytes([]byte(p.read(4))).Int64()), api.OK
}

func (p *plain) bytes(n int) (string, api.Errno) {
	switch {
	case n < 0 || n > bytesMost:
		return "", api.ErrRange
	case len(p.left) < n:
		return "", api.ErrTape
	}
	return p.read(n), api.OK
}

func (p *plain) order(n int) ([]int, api.Errno) {
	switch {
	case n < 0 || n > orderMost:
		return nil, api.ErrRange
	case n > 1 && len(p.left) < 4*(n-1):
		return nil, api.ErrTape
	}
	var l []int
	for i := range n {
		l = append(l, i)
	}
	for i := n - 1; i >= 1; i-- {
		j := p.draw(i + 1)
		at := l[i]
		l[i] = l[j]
		l[j] = at
	}
	return l, api.OK
}

// left fails unless a tape has so many bytes.
func left(t *testing.T, x *tape.Tape, want int) {
	t.Helper()
	if n := x.Left(); n != want {
		t.Fatalf("Left: %d; want %d", n, want)
	}
}

// below, word, bytes and order fail unless a tape answers this.
func below(t *testing.T, x *tape.Tape, n, want int, wantE api.Errno) {
	t.Helper()
	if d, e := x.Below(n); d != want || e != wantE {
		t.Fatalf("Below(%d): %d, error %d; want %d, error %d", n, d, e, want, wantE)
	}
}

func word(t *testing.T, x *tape.Tape, want int, wantE api.Errno) {
	t.Helper()
	if d, e := x.Word(); d != want || e != wantE {
		t.Fatalf("Word: %d, error %d; want %d, error %d", d, e, want, wantE)
	}
}

func bytes(t *testing.T, x *tape.Tape, n int, want string, wantE api.Errno) {
	t.Helper()
	if s, e := x.Bytes(n); s != want || e != wantE {
		t.Fatalf("Bytes(%d): %d bytes, error %d; want %d bytes, error %d", n, len(s), e, len(want), wantE)
	}
}

func order(t *testing.T, x *tape.Tape, n int, want []int, wantE api.Errno) {
	t.Helper()
	if l, e := x.Order(n); !slices.Equal(l, want) || e != wantE {
		t.Fatalf("Order(%d): %v, error %d; want %v, error %d", n, l, e, want, wantE)
	}
}

// has fails unless just these bytes are left of a tape, which it leaves as it is.
func has(t *testing.T, x *tape.Tape, want string) {
	t.Helper()
	left(t, x, len(want))
	f := x.Fork()
	for want != "" {
		n := min(len(want), bytesMost)
		bytes(t, f, n, want[:n], api.OK)
		want = want[n:]
	}
	left(t, f, 0)
	left(t, x, x.Fork().Left())
}

// refuses fails unless a tape refuses all that may not be asked of it, and stays as it is.
func refuses(t *testing.T, x *tape.Tape) {
	t.Helper()
	many := x.Left()
	for _, n := range wrongBelow() {
		below(t, x, n, 0, api.ErrRange)
		left(t, x, many)
	}
	for _, n := range wrongBytes() {
		bytes(t, x, n, "", api.ErrRange)
		left(t, x, many)
	}
	for _, n := range wrongOrders() {
		order(t, x, n, nil, api.ErrRange)
		left(t, x, many)
	}
	ends(t, x, many)
}

// ends fails unless a tape of so many bytes refuses what needs more.
func ends(t *testing.T, x *tape.Tape, many int) {
	t.Helper()
	if many < 4 {
		for _, n := range []int{1, 2, 10, 1 << 16, belowMost - 1, belowMost} {
			below(t, x, n, 0, api.ErrTape)
			left(t, x, many)
		}
		word(t, x, 0, api.ErrTape)
		left(t, x, many)
	}
	for n := many + 1; n <= bytesMost; n += 1 + n/7 {
		bytes(t, x, n, "", api.ErrTape)
		left(t, x, many)
	}
	if many < bytesMost {
		bytes(t, x, bytesMost, "", api.ErrTape)
		left(t, x, many)
	}
	for n := max(2, many/4+2); n <= orderMost; n++ {
		order(t, x, n, nil, api.ErrTape)
		left(t, x, many)
	}
}

// texts are of the lengths that the calls' bounds are at, and of bytes of each kind.
func texts() []string {
	l := []string{"", "a", "\x00", "abc", fulls(3), "abcd", zeros(4), fulls(4), "abcde", zeros(5)}
	for i, n := range []int{2, 6, 7, 8, 9, 31, 64, 251, 252, 253, 4095, 4096, 4097, 5000, 9001} {
		l = append(l, drawn(int64(i), n))
	}
	return append(l, zeros(3000), fulls(3000))
}

// Promise 12.1.

func TestExample(t *testing.T) {
	x := tape.New("\x80\x00\x00\x00")
	below(t, x, 10, 5, api.OK)
	left(t, x, 0)
}

func TestNewReadsNothing(t *testing.T) {
	for _, s := range texts() {
		x := tape.New(s)
		left(t, x, len(s))
		left(t, x, len(s))
		has(t, x, s)
		refuses(t, x)
		has(t, x, s)
	}
	big := drawn(1, 1<<20)
	has(t, tape.New(big), big)
}

// TestBelow has draws that are reckoned by hand.
func TestBelow(t *testing.T) {
	for _, c := range []struct {
		text    string
		n, want int
	}{
		{"\x00\x00\x00\x00", 1, 0}, {"\x00\x00\x00\x00", 2, 0}, {"\x00\x00\x00\x00", 1<<31 - 1, 0},
		{"\xff\xff\xff\xff", 1, 0}, {"\xff\xff\xff\xff", 2, 1}, {"\xff\xff\xff\xff", 10, 9}, {"\xff\xff\xff\xff", 1<<31 - 1, 1<<31 - 2},
		{"\x7f\xff\xff\xff", 2, 0}, {"\x80\x00\x00\x00", 2, 1}, {"\x80\x00\x00\x00", 1, 0}, {"\x80\x00\x00\x00", 3, 1},
		{"\x80\x00\x00\x00", 10, 5}, {"\x7f\xff\xff\xff", 10, 4}, {"\x19\x99\x99\x99", 10, 0}, {"\x19\x99\x99\x9a", 10, 1},
		{"\x55\x55\x55\x55", 3, 0}, {"\x55\x55\x55\x56", 3, 1}, {"\xaa\xaa\xaa\xaa", 3, 1}, {"\xaa\xaa\xaa\xab", 3, 2},
		{"\x80\x00\x00\x00", 1<<31 - 1, 1<<30 - 1}, {"\x80\x00\x00\x01", 1<<31 - 1, 1<<30 - 1}, {"\x80\x00\x00\x02", 1<<31 - 1, 1 << 30},
		{"\x01\x02\x03\x04", 256, 1}, {"\x01\x02\x03\x04", 1 << 16, 0x102}, {"\x01\x02\x03\x04", 1 << 24, 0x10203}, {"\xf1\x02\x03\x05", 1 << 30, 0x3c4080c1},
		{"\x00\x00\x00\x02", 1<<31 - 1, 0}, {"\x00\x00\x00\x03", 1<<31 - 1, 1}, {"\xff\xff\xff\xfe", 1<<31 - 1, 1<<31 - 2}, {"\xff\xff\xff\xfd", 1<<31 - 1, 1<<31 - 3},
	} {
		for _, more := range []string{"", "x", "\xff\xff\xff\xff", zeros(9)} {
			x := tape.New(c.text + more)
			below(t, x, c.n, c.want, api.OK)
			has(t, x, more)
		}
	}
}

// TestBelowSteps: each number has the words from its first one up to the next number's.
func TestBelowSteps(t *testing.T) {
	try := func(n, j int) {
		first := picks(j, n)
		below(t, tape.New(words(first)), n, j, api.OK)
		if j > 0 {
			below(t, tape.New(words(first-1)), n, j-1, api.OK)
		}
	}
	for n := 1; n <= 300; n++ {
		for j := range n {
			try(n, j)
		}
		below(t, tape.New(fulls(4)), n, n-1, api.OK)
	}
	by := rand.New(rand.NewSource(2))
	for range 3000 {
		n := 1 + by.Intn(1<<(1+by.Intn(30)))
		for _, j := range []int{0, n / 2, n - 1, by.Intn(n)} {
			try(n, j)
		}
	}
	for _, n := range []int{belowMost, belowMost - 1, 1 << 30, 1<<30 + 1} {
		for _, j := range []int{0, 1, 2, n / 3, n/2 - 1, n / 2, n/2 + 1, n - 2, n - 1} {
			try(n, j)
		}
	}
}

// TestBelowByHand has the greatest and least bounds, and drawn ones, with words of each kind, which are turned bit by bit.
func TestBelowByHand(t *testing.T) {
	ns := []int{1, 2, 3, 7, 10, 255, 256, 257, 65535, 65536, 1<<24 - 1, 1 << 24, 1 << 30, 1<<31 - 2, 1<<31 - 1}
	by := rand.New(rand.NewSource(3))
	for range 200 {
		ns = append(ns, 1+by.Intn(belowMost))
	}
	for _, n := range ns {
		l := []uint32{0, 1, 2, 255, 256, 1<<16 - 1, 1 << 16, 1<<24 - 1, 1 << 24, 1<<31 - 1, 1 << 31, 1<<31 + 1, 1<<32 - 2, 1<<32 - 1}
		one := by.Uint32()
		for bit := range 32 {
			l = append(l, 1<<bit, one^1<<bit)
		}
		x, p := tape.New(words(l...)), plain{words(l...)}
		for range l {
			want, e := p.below(n)
			if want < 0 || want >= n {
				t.Fatalf("%d is not below %d", want, n)
			}
			below(t, x, n, want, e)
			left(t, x, len(p.left))
		}
		below(t, x, n, 0, api.ErrTape)
	}
}

func TestBelowRefuses(t *testing.T) {
	for _, s := range texts() {
		for _, n := range wrongBelow() {
			x := tape.New(s)
			below(t, x, n, 0, api.ErrRange)
			has(t, x, s)
		}
		for _, n := range []int{1, 2, belowMost} {
			x := tape.New(s)
			if len(s) < 4 {
				below(t, x, n, 0, api.ErrTape)
				has(t, x, s)
			} else {
				p := plain{s}
				want, _ := p.below(n)
				below(t, x, n, want, api.OK)
				has(t, x, s[4:])
			}
		}
	}
}

func TestWord(t *testing.T) {
	for s, want := range map[string]int{
		"\x00\x00\x00\x00": 0, "\xff\xff\xff\xff": 1<<32 - 1, "\x7f\xff\xff\xff": 1<<31 - 1, "\x80\x00\x00\x00": 1 << 31,
		"\x00\x00\x00\x01": 1, "\x00\x00\x01\x00": 256, "\x00\x01\x00\x00": 1 << 16, "\x01\x00\x00\x00": 1 << 24,
		"\x01\x02\x03\x04": 16909060, "\xfe\xdc\xba\x98": 4275878552, "\xff\xff\xff\xfe": 1<<32 - 2, "\x80\x00\x00\x01": 1<<31 + 1,
	} {
		for _, more := range []string{"", "x", "\xff\xff\xff\xff", zeros(9)} {
			x := tape.New(s + more)
			word(t, x, want, api.OK)
			has(t, x, more)
		}
	}
	for place := range 4 {
		for b := range 256 {
			text := []byte("\x00\x00\x00\x00")
			text[place] = byte(b)
			word(t, tape.New(string(text)), b<<(8*(3-place)), api.OK)
		}
	}
}

// TestWordsOfAText are drawn one behind the other, until fewer than four bytes are left, which stay.
func TestWordsOfAText(t *testing.T) {
	for _, s := range texts() {
		x := tape.New(s)
		for at := 0; at+4 <= len(s); at += 4 {
			left(t, x, len(s)-at)
			want := int(s[at])*1<<24 + int(s[at+1])*1<<16 + int(s[at+2])*1<<8 + int(s[at+3])
			word(t, x, want, api.OK)
		}
		for range 3 {
			word(t, x, 0, api.ErrTape)
			below(t, x, 5, 0, api.ErrTape)
			left(t, x, len(s)%4)
		}
		has(t, x, s[len(s)-len(s)%4:])
	}
}

func TestBytes(t *testing.T) {
	for _, s := range texts() {
		for _, n := range []int{0, 1, 2, 3, 4, 5, 100, 4095, 4096, len(s) - 1, len(s), len(s) + 1} {
			if n < 0 || n > bytesMost {
				continue
			}
			x := tape.New(s)
			if n > len(s) {
				bytes(t, x, n, "", api.ErrTape)
				has(t, x, s)
				continue
			}
			bytes(t, x, n, s[:n], api.OK)
			has(t, x, s[n:])
			refuses(t, x)
			has(t, x, s[n:])
		}
	}
}

func TestBytesRefuses(t *testing.T) {
	for _, s := range texts() {
		for _, n := range wrongBytes() {
			x := tape.New(s)
			bytes(t, x, n, "", api.ErrRange)
			has(t, x, s)
		}
	}
	for _, s := range []string{drawn(4, 4096), drawn(5, 4097), drawn(6, 10000)} {
		x := tape.New(s)
		bytes(t, x, 4097, "", api.ErrRange)
		bytes(t, x, 4096, s[:4096], api.OK)
		has(t, x, s[4096:])
	}
	x := tape.New(drawn(7, 4095))
	bytes(t, x, 4096, "", api.ErrTape)
	bytes(t, x, 4097, "", api.ErrRange)
	bytes(t, x, 4095, drawn(7, 4095), api.OK)
	left(t, x, 0)
}

// TestBytesInPieces: where the pieces end does not change what is read.
func TestBytesInPieces(t *testing.T) {
	s := drawn(8, 5000)
	for _, size := range []int{1, 2, 3, 5, 64, 4095, 4096} {
		x, at := tape.New(s), 0
		for at < len(s) {
			n := min(size, len(s)-at)
			bytes(t, x, 0, "", api.OK)
			bytes(t, x, n, s[at:at+n], api.OK)
			at += n
			left(t, x, len(s)-at)
		}
		bytes(t, x, 0, "", api.OK)
		bytes(t, x, 1, "", api.ErrTape)
	}
}

// TestRangeComesFirst at a tape's end, where both could be told.
func TestRangeComesFirst(t *testing.T) {
	for _, s := range []string{"", "a", "abc"} {
		x := tape.New(s)
		refuses(t, x)
		f := x.Fork()
		bytes(t, x, len(s), s, api.OK)
		refuses(t, x)
		refuses(t, f)
		has(t, f, s)
		has(t, x, "")
	}
}

// TestRefusedReadsNothing: what comes behind calls that are refused is drawn from the same bytes.
func TestRefusedReadsNothing(t *testing.T) {
	s := drawn(9, 3000)
	x, p := tape.New(s), plain{s}
	for i := range 40 {
		refuses(t, x)
		switch i % 4 {
		case 0:
			want, e := p.below(1000 + i)
			below(t, x, 1000+i, want, e)
		case 1:
			want, e := p.word()
			word(t, x, want, e)
		case 2:
			want, e := p.bytes(i)
			bytes(t, x, i, want, e)
		case 3:
			want, e := p.order(i)
			order(t, x, i, want, e)
		}
		has(t, x, p.left)
	}
}

// TestForkAtEachPlace: both go on alike from there, whichever is asked first.
func TestForkAtEachPlace(t *testing.T) {
	s := drawn(10, 300)
	for at := range len(s) + 1 {
		x := tape.New(s)
		bytes(t, x, at, s[:at], api.OK)
		f := x.Fork()
		g := f.Fork()
		for _, y := range []*tape.Tape{f, x, g} {
			left(t, y, len(s)-at)
			has(t, y, s[at:])
			bytes(t, y, len(s)-at, s[at:], api.OK)
			left(t, y, 0)
			refuses(t, y)
		}
	}
}

// TestForkGoesItsOwnWay: the two are asked otherwise, and neither changes the other.
func TestForkGoesItsOwnWay(t *testing.T) {
	s := words(1<<31, 1<<30, 7, 1<<32-1, 5) + "the rest"
	for swap := range 2 {
		x := tape.New(s)
		f := x.Fork()
		if swap == 1 {
			x, f = f, x
		}
		below(t, x, 10, 5, api.OK)
		left(t, f, 28)
		word(t, f, 1<<31, api.OK)
		bytes(t, f, 8, words(1<<30, 7), api.OK)
		has(t, x, s[4:])
		order(t, x, 3, []int{1, 2, 0}, api.OK) // 0 of 3: 2 1 0; 0 of 2: 1 2 0
		has(t, x, s[12:])
		has(t, f, s[12:])
		below(t, f, 100, 99, api.OK)
		refuses(t, f)
		word(t, x, 1<<32-1, api.OK)
		order(t, f, 2, []int{1, 0}, api.OK)
		bytes(t, f, 8, "the rest", api.OK)
		below(t, f, 1, 0, api.ErrTape)
		has(t, x, s[16:])
		word(t, x, 5, api.OK)
		left(t, f, 0)
	}
}

// TestForksAtStartBetweenAndEnd: tapes made of one another, each then asked for what the others are not.
func TestForksAtStartBetweenAndEnd(t *testing.T) {
	s := drawn(11, 400)
	x := tape.New(s)
	at := []int{0}
	l := []*tape.Tape{x.Fork()}
	for i := range 30 {
		bytes(t, x, i%9, s[len(s)-x.Left():][:i%9], api.OK)
		l, at = append(l, x.Fork(), l[i].Fork()), append(at, len(s)-x.Left(), at[i])
	}
	bytes(t, x, x.Left(), s[len(s)-x.Left():], api.OK)
	l, at = append(l, x.Fork(), x.Fork().Fork()), append(at, len(s), len(s))
	for i, f := range l {
		p := plain{s[at[i]:]}
		has(t, f, p.left)
		asked(t, rand.New(rand.NewSource(int64(i))), f, &p)
		has(t, f, p.left)
	}
	left(t, x, 0)
	refuses(t, x)
	has(t, l[0].Fork(), s[len(s)-l[0].Left():])
}

// Promise 12.2.

// TestOrders has changes of places that were gone through by hand.
func TestOrders(t *testing.T) {
	for _, c := range []struct {
		text string
		n    int
		want []int
	}{
		{"", 0, nil}, {"", 1, []int{0}},
		{zeros(4), 2, []int{1, 0}}, {"\x7f\xff\xff\xff", 2, []int{1, 0}}, {"\x80\x00\x00\x00", 2, []int{0, 1}}, {fulls(4), 2, []int{0, 1}},
		{zeros(8), 3, []int{1, 2, 0}},                            // 0 1 2: 2 1 0: 1 2 0
		{words(1<<31, 0), 3, []int{2, 0, 1}},                     // 0 1 2: 0 2 1: 2 0 1
		{words(0, 1<<31), 3, []int{2, 1, 0}},                     // 0 1 2: 2 1 0: 2 1 0
		{words(1<<32-1, 0), 3, []int{1, 0, 2}},                   // 0 1 2: 0 1 2: 1 0 2
		{words(1<<31, 1<<31), 3, []int{0, 2, 1}},                 // 0 1 2: 0 2 1: 0 2 1
		{zeros(12), 4, []int{1, 2, 3, 0}},                        // 3 1 2 0: 2 1 3 0: 1 2 3 0
		{words(1<<30, 1<<31, 1<<31), 4, []int{0, 2, 3, 1}},       // 1 of 4: 0 3 2 1; 1 of 3: 0 2 3 1; 1 of 2: 0 2 3 1
		{words(1<<31, 0, 0), 4, []int{1, 3, 0, 2}},               // 2 of 4: 0 1 3 2; 0 of 3: 3 1 0 2; 0 of 2: 1 3 0 2
		{words(3<<30, 1<<31, 0), 4, []int{2, 0, 1, 3}},           // 3 of 4: 0 1 2 3; 1 of 3: 0 2 1 3; 0 of 2: 2 0 1 3
		{words(1<<31, 1<<30, 3<<30, 0), 5, []int{3, 0, 4, 1, 2}}, // 2 of 5: 0 1 4 3 2; 1 of 4: 0 3 4 1 2; 2 of 3; 0 of 2: 3 0 4 1 2
		{fulls(252), 64, counted(64)},
	} {
		for _, more := range []string{"", "x", "more", zeros(300)} {
			x := tape.New(c.text + more)
			order(t, x, c.n, c.want, api.OK)
			has(t, x, more)
		}
	}
}

// counted is the numbers 0 to n - 1 as they are.
func counted(n int) []int {
	l := make([]int, n)
	for i := range l {
		l[i] = i
	}
	return l
}

// TestOrderOfZeros: each number changes places with the first: all go one place ahead.
func TestOrderOfZeros(t *testing.T) {
	for n := range orderMost + 1 {
		x := tape.New(zeros(4 * orderMost))
		want := counted(n)
		if n > 0 {
			want = append(want[1:], 0)
		}
		order(t, x, n, want, api.OK)
		left(t, x, 4*orderMost-4*max(n-1, 0))
		y := tape.New(fulls(4 * orderMost))
		order(t, y, n, counted(n), api.OK)
		left(t, y, 4*orderMost-4*max(n-1, 0))
	}
}

// TestOrderBytes: just enough, one byte fewer, and one more.
func TestOrderBytes(t *testing.T) {
	for n := range orderMost + 1 {
		need := 4 * max(n-1, 0)
		for _, many := range []int{0, need - 4, need - 3, need - 1, need, need + 1, need + 4} {
			if many < 0 {
				continue
			}
			s := drawn(int64(n), many)
			x, p := tape.New(s), plain{s}
			want, e := p.order(n)
			if (e == api.OK) != (many >= need) {
				t.Fatalf("%d bytes for an order of %d: error %d", many, n, e)
			}
			order(t, x, n, want, e)
			has(t, x, p.left)
			if e != api.OK {
				has(t, x, s)
			}
		}
	}
}

func TestOrderRefuses(t *testing.T) {
	for _, s := range texts() {
		for _, n := range wrongOrders() {
			x := tape.New(s)
			order(t, x, n, nil, api.ErrRange)
			has(t, x, s)
		}
		x := tape.New(s)
		order(t, x, 0, nil, api.OK)
		order(t, x, 1, []int{0}, api.OK)
		has(t, x, s)
	}
}

// TestEachOrderOnce: the draws of an order can fall in as many ways as there are orders, and make each of them.
func TestEachOrderOnce(t *testing.T) {
	many := 1
	for n := 2; n <= 6; n++ {
		many *= n
		made := map[string]int{}
		for k := range many {
			var l []uint32
			for i := n; i >= 2; i-- {
				l = append(l, picks(k%i, i))
				k /= i
			}
			o, e := tape.New(words(l...)).Order(n)
			if e != api.OK {
				t.Fatalf("error %d", e)
			}
			made[fmt.Sprint(o)]++
			slices.Sort(o)
			if !slices.Equal(o, counted(n)) {
				t.Fatalf("the numbers are %v", o)
			}
		}
		if len(made) != many {
			t.Errorf("%d orders of %d; want %d", len(made), n, many)
		}
	}
}

// TestOrdersByHand has drawn texts, of all n, one order behind the other.
func TestOrdersByHand(t *testing.T) {
	for seed := range int64(30) {
		s := drawn(seed, 9000)
		x, p := tape.New(s), plain{s}
		for n := range orderMost + 1 {
			want, e := p.order(n)
			order(t, x, n, want, e)
			left(t, x, len(p.left))
			slices.Sort(want)
			if !slices.Equal(want, counted(n)) {
				t.Fatalf("the numbers are %v", want)
			}
		}
		has(t, x, p.left)
	}
}

// Promise 12.3.

// asked asks a tape and a plain one for the same, as it is drawn, and fails unless they answer alike.
func asked(t *testing.T, by *rand.Rand, x *tape.Tape, p *plain) api.Errno {
	t.Helper()
	var e api.Errno
	switch by.Intn(4) {
	case 0:
		n := drawnNumber(by, belowMost, wrongBelow())
		var want int
		want, e = p.below(n)
		below(t, x, n, want, e)
		if e == api.OK && (want < 0 || want >= n) {
			t.Fatalf("%d is not below %d", want, n)
		}
	case 1:
		var want int
		want, e = p.word()
		word(t, x, want, e)
	case 2:
		n := drawnNumber(by, bytesMost, wrongBytes())
		var want string
		want, e = p.bytes(n)
		bytes(t, x, n, want, e)
	case 3:
		n := drawnNumber(by, orderMost, wrongOrders())
		var want []int
		want, e = p.order(n)
		order(t, x, n, want, e)
	}
	left(t, x, len(p.left))
	return e
}

// drawnNumber is mostly one up to the most, small ones as often as great ones; now and then at an edge, or a wrong one.
func drawnNumber(by *rand.Rand, most int, wrong []int) int {
	switch k := by.Intn(20); {
	case k == 0:
		return wrong[by.Intn(len(wrong))]
	case k == 1:
		return []int{0, 1, 2, most - 1, most, most + 1}[by.Intn(6)]
	case k < 12:
		return by.Intn(min(most, 20))
	}
	return by.Intn(1 + by.Intn(most))
}

// TestAsPlain plays drawn calls with tapes by the chapter's words beside, forks of both among them.
func TestAsPlain(t *testing.T) {
	told := map[api.Errno]int{}
	for seed := range int64(150) {
		by := rand.New(rand.NewSource(seed))
		s := drawn(-seed, by.Intn(1<<by.Intn(16)))
		l, ps := []*tape.Tape{tape.New(s)}, []*plain{{s}}
		for range 150 {
			i := by.Intn(len(l))
			if by.Intn(20) == 0 {
				l, ps = append(l, l[i].Fork()), append(ps, &plain{ps[i].left})
			}
			told[asked(t, by, l[i], ps[i])]++
			for j, x := range l {
				left(t, x, len(ps[j].left))
			}
		}
		for i, x := range l {
			has(t, x, ps[i].left)
		}
	}
	for _, e := range []api.Errno{api.OK, api.ErrRange, api.ErrTape} {
		if told[e] < 500 {
			t.Errorf("the error %d was told %d times: too few", e, told[e])
		}
	}
	if len(told) != 3 {
		t.Errorf("the errors told: %v", told)
	}
}

// TestOneTextTellsTheSame: tapes of one text, asked the same, call by call and one after the other.
func TestOneTextTellsTheSame(t *testing.T) {
	s := drawn(12, 20000)
	ask := func(x *tape.Tape) string {
		said := ""
		for i := range 400 {
			a, e := x.Below(1 + i*i*i)
			b, e2 := x.Word()
			c, e3 := x.Bytes(i % 50)
			d, e4 := x.Order(i % 66)
			said += fmt.Sprintln(a, e, b, e2, []byte(c), e3, d, e4, x.Left())
		}
		return said
	}
	want := ask(tape.New(s))
	for range 3 {
		x := tape.New(s)
		f := x.Fork()
		if ask(x) != want || ask(f) != want || ask(tape.New(strings.Clone(s))) != want {
			t.Error("another answer")
		}
	}
	if ask(tape.New(drawn(13, 20000))) == want {
		t.Error("another text's tape answers the same")
	}
}

// TestManyDraws: all bytes of a long text, none twice and none left out.
func TestManyDraws(t *testing.T) {
	const many = 1 << 19
	b := make([]byte, 0, 4*many)
	for i := range uint32(many) {
		b = binary.BigEndian.AppendUint32(b, i*8191)
	}
	x, y := tape.New(string(b)), tape.New(string(b))
	for i := range uint32(many) {
		word(t, x, int(i*8191), api.OK)
		below(t, y, 1<<16, int(i*8191>>16), api.OK)
	}
	left(t, x, 0)
	left(t, y, 0)
	word(t, x, 0, api.ErrTape)
	below(t, y, 1, 0, api.ErrTape)
}

// Rules that hold everywhere.

// TestListsAreNew: an order that is written over, and what lies behind its length, change neither the tape nor another answer.
func TestListsAreNew(t *testing.T) {
	for n := range orderMost + 1 {
		s := drawn(int64(n), 4*4*orderMost)
		x, p := tape.New(s), plain{s}
		f := x.Fork()
		want, _ := p.order(n)
		behind, _ := p.order(n)
		one, e := x.Order(n)
		two, e2 := x.Order(n)
		if e != api.OK || e2 != api.OK {
			t.Fatalf("errors %d, %d", e, e2)
		}
		for i := range one[:cap(one)] {
			one[:cap(one)][i] = -7
		}
		if !slices.Equal(two, behind) {
			t.Fatalf("the second order of %d became %v; want %v", n, two, behind)
		}
		has(t, x, p.left)
		order(t, f, n, want, api.OK)
		order(t, f, n, behind, api.OK)
		next, _ := p.order(n)
		order(t, x, n, next, api.OK)
		order(t, tape.New(s), n, want, api.OK)
	}
}

// shown is the bytes as a text that changes with them.
func shown(b []byte) string { return unsafe.String(unsafe.SliceData(b), len(b)) }

// TestTextIsNotKept: memory of a text that is written anew later does not show, nor is it written.
func TestTextIsNotKept(t *testing.T) {
	s := drawn(14, 100)
	b := []byte(s)
	x := tape.New(shown(b))
	f := x.Fork()
	word(t, f, int(binary.BigEndian.Uint32([]byte(s))), api.OK)
	got, _ := f.Bytes(20)
	g := f.Fork()
	if string(b) != s {
		t.Fatal("the text was written")
	}
	for i := range b {
		b[i] ^= 0x55
	}
	has(t, x, s)
	has(t, f, s[24:])
	has(t, g, s[24:])
	if got != s[4:24] {
		t.Errorf("%x; want %x", got, s[4:24])
	}
}

// TestAnswersShareNothing: bytes that were told stand in memory of their own.
func TestAnswersShareNothing(t *testing.T) {
	x := tape.New(drawn(15, 100))
	f := x.Fork()
	one, _ := x.Bytes(50)
	two, _ := f.Bytes(50)
	g := x.Fork()
	three, _ := x.Bytes(50)
	four, _ := g.Bytes(50)
	if one != two || three != four {
		t.Fatal("other bytes")
	}
	places := map[*byte]int{}
	for _, s := range []string{one, two, three, four} {
		for i := range len(s) {
			places[&unsafe.Slice(unsafe.StringData(s), len(s))[i]]++
		}
	}
	if len(places) != 200 {
		t.Errorf("%d bytes of memory; want 200", len(places))
	}
}

// TestLittleHoldsLittle: bytes that were told, a fork near the end and a tape of a piece do not hold the great text that they come from.
func TestLittleHoldsLittle(t *testing.T) {
	used := func() int64 {
		var m runtime.MemStats
		runtime.GC()
		runtime.ReadMemStats(&m)
		return int64(m.HeapAlloc)
	}
	const great, many = 1 << 20, 64
	for name, little := range map[string]func(text string) any{
		"bytes": func(text string) any {
			s, _ := tape.New(text).Bytes(16)
			return s
		},
		"a fork": func(text string) any {
			x := tape.New(text)
			for range great/bytesMost - 1 {
				x.Bytes(bytesMost)
			}
			return x.Fork()
		},
		"a tape": func(text string) any { return tape.New(text[great-16:]) },
	} {
		var l []any
		before := used()
		for range many {
			l = append(l, little(zeros(great)))
		}
		if more := used() - before; more > many*great/8 {
			t.Errorf("%s: %d of them have %d bytes", name, len(l), more)
		}
		runtime.KeepAlive(l)
	}
}

// TestTapesDoNotTouch: tapes and their forks at the same time, and one after the other, tell the same.
func TestTapesDoNotTouch(t *testing.T) {
	s := drawn(16, 40000)
	origin := tape.New(s)
	var all sync.WaitGroup
	for k := range 8 {
		x := origin.Fork()
		all.Go(func() {
			p := plain{s}
			for i := range 200 {
				d, e := x.Below(k + i + 1)
				l, e2 := x.Order((k + i) % 30)
				want, wantE := p.below(k + i + 1)
				list, wantE2 := p.order((k + i) % 30)
				if d != want || e != wantE || e2 != wantE2 || !slices.Equal(l, list) || x.Left() != len(p.left) {
					t.Errorf("tape %d, call %d: %d, %v, errors %d, %d", k, i, d, l, e, e2)
				}
			}
		})
	}
	all.Wait()
	has(t, origin, s)
}
