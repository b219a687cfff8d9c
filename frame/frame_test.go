package frame_test

import (
	"encoding/binary"
	"math/rand"
	"runtime"
	"slices"
	"strings"
	"sync"
	"testing"
	"unsafe"

	"dovecote/api"
	"dovecote/frame"
)

const (
	most = 4096    // bytes of a text
	full = 1 << 20 // bytes of a reader that were not told
)

// drawn is a text of so many bytes, the same one in each run.
func drawn(seed int64, many int) string {
	b := make([]byte, many)
	rand.New(rand.NewSource(seed)).Read(b)
	return string(b)
}

// zeros has so many bytes 0.
func zeros(many int) string { return strings.Repeat("\x00", many) }

// head is the four bytes that tell a number.
func head(n uint32) string { return string(binary.BigEndian.AppendUint32(nil, n)) }

// byHand is the frames of the texts, put together from the chapter's words.
func byHand(l ...string) string {
	s := ""
	for _, x := range l {
		s += head(uint32(len(x))) + x
	}
	return s
}

// lists are of texts: none, one, several, the edges of lengths, and texts that look like frames.
func lists() [][]string {
	return [][]string{
		nil, {}, {""}, {"", ""}, slices.Repeat([]string{""}, 50),
		{"ab"}, {"a", "b"}, {"", "ab", ""}, {"\x00"}, {"\x00\x00\x00\x01"}, {"\xff\xff\xff\xff"},
		{byHand("ab")}, {byHand("", "ab"), "x"}, {head(4097)}, {head(4097), head(4096)},
		{drawn(1, 1)}, {drawn(2, 255)}, {drawn(3, 256)}, {drawn(4, 257)}, {drawn(5, 4095)}, {drawn(6, 4096)},
		{drawn(7, 4096), "", drawn(8, 1), drawn(9, 256), drawn(10, 4095), drawn(11, 255), zeros(4096)},
		slices.Repeat([]string{"\x00\x00\x10\x01", "x"}, 30),
	}
}

// wrongHeads are four bytes that tell more than a text may have.
func wrongHeads() []string {
	return []string{head(4097), head(4098), head(1 << 13), head(1<<16 + 1), head(1 << 16), head(1 << 24), head(1<<24 + 2), head(1 << 31), head(1<<31 - 1), head(1<<32 - 4096), head(1<<32 - 1)}
}

// takes fails unless a reader answers this to a chunk.
func takes(t *testing.T, r *frame.Reader, chunk string, want api.Errno) {
	t.Helper()
	if e := r.Take(chunk); e != want {
		t.Fatalf("Take of %d bytes: error %d; want %d", len(chunk), e, want)
	}
}

// waits fails unless a reader has so many bytes.
func waits(t *testing.T, r *frame.Reader, want int) {
	t.Helper()
	if n := r.Waits(); n != want {
		t.Fatalf("Waits: %d; want %d", n, want)
	}
}

// tells fails unless the next frames of a reader are these; more may come behind them.
func tells(t *testing.T, r *frame.Reader, want ...string) {
	t.Helper()
	for i, w := range want {
		if s, ok := r.Next(); s != w || !ok {
			t.Fatalf("the frame %d: %d bytes, %v; want %d, true", i, len(s), ok, len(w))
		}
	}
}

// silent fails if a reader tells a frame.
func silent(t *testing.T, r *frame.Reader) {
	t.Helper()
	if s, ok := r.Next(); s != "" || ok {
		t.Fatalf("Next: %d bytes, %v; want none, false", len(s), ok)
	}
}

// broken fails unless a reader is broken, and stays so, with all forks.
func broken(t *testing.T, r *frame.Reader) {
	t.Helper()
	for _, x := range []*frame.Reader{r, r.Fork(), r.Fork().Fork()} {
		for _, chunk := range []string{"", "a", head(0), byHand("ab"), head(4097), zeros(full), zeros(full + 1)} {
			waits(t, x, 0)
			silent(t, x)
			takes(t, x, chunk, api.ErrFrame)
			silent(t, x)
			waits(t, x, 0)
		}
	}
}

// taken is a reader that took these chunks.
func taken(t *testing.T, chunks ...string) *frame.Reader {
	t.Helper()
	r := frame.New()
	for _, c := range chunks {
		takes(t, r, c, api.OK)
	}
	return r
}

// inPieces cuts a text into pieces of one length.
func inPieces(s string, size int) []string {
	var l []string
	for s != "" {
		k := min(size, len(s))
		l, s = append(l, s[:k]), s[k:]
	}
	return l
}

// plain is a reader by the chapter's words, that puts texts together anew at each call.
type plain struct {
	has    string
	broken bool
}

func (p *plain) wrong() bool {
	return len(p.has) >= 4 && binary.BigEndian.Uint32([]byte(p.has)) > most
}

func (p *plain) settle() {
	if p.wrong() {
		p.has, p.broken = "", true
	}
}

func (p *plain) take(chunk string) api.Errno {
	switch {
	case p.broken:
		return api.ErrFrame
	case len(p.has)+len(chunk) > full:
		return api.ErrLong
	}
	p.has += chunk
	p.settle()
	return api.OK
}

func (p *plain) next() (string, bool) {
	if len(p.has) < 4 {
		return "", false
	}
	n := 4 + int(binary.BigEndian.Uint32([]byte(p.has)))
	if len(p.has) < n {
		return "", false
	}
	s := p.has[4:n]
	p.has = p.has[n:]
	p.settle()
	return s, true
}

// Promise 10.1.

func TestExample(t *testing.T) {
	s, e := frame.Of("ab")
	if s != "\x00\x00\x00\x02ab" || e != api.OK {
		t.Fatalf("%x, error %d", s, e)
	}
	r := frame.New()
	for i := range len(s) {
		silent(t, r)
		takes(t, r, s[i:i+1], api.OK)
	}
	tells(t, r, "ab")
	silent(t, r)
	waits(t, r, 0)
}

func TestOfByHand(t *testing.T) {
	for _, l := range lists() {
		if s, e := frame.Of(l...); s != byHand(l...) || e != api.OK {
			t.Errorf("%d texts: %d bytes, error %d; want %d bytes", len(l), len(s), e, len(byHand(l...)))
		}
	}
	if s, e := frame.Of(); s != "" || e != api.OK {
		t.Errorf("no text: %x, error %d", s, e)
	}
}

// TestOfEachLength has the four bytes written out.
func TestOfEachLength(t *testing.T) {
	for n, want := range map[int]string{
		0: "\x00\x00\x00\x00", 1: "\x00\x00\x00\x01", 255: "\x00\x00\x00\xff", 256: "\x00\x00\x01\x00", 257: "\x00\x00\x01\x01",
		4095: "\x00\x00\x0f\xff", 4096: "\x00\x00\x10\x00",
	} {
		x := drawn(int64(n), n)
		if s, e := frame.Of(x); s != want+x || e != api.OK {
			t.Errorf("%d bytes: %d bytes, error %d", n, len(s), e)
		}
	}
	for n := range most + 1 {
		if s, e := frame.Of(zeros(n)); s != head(uint32(n))+zeros(n) || e != api.OK {
			t.Errorf("%d bytes: %d bytes, error %d", n, len(s), e)
		}
	}
}

func TestOfRefuses(t *testing.T) {
	for _, n := range []int{4097, 4098, 8192, api.MaxBytes, full, full + 1, 1<<24 + 1} {
		x := zeros(n)
		for _, l := range [][]string{{x}, {"", x}, {x, ""}, {"a", x, "b"}, {x, x}, {zeros(4096), x}, append(slices.Repeat([]string{"ab"}, 100), x)} {
			if s, e := frame.Of(l...); s != "" || e != api.ErrLong {
				t.Errorf("a text of %d bytes among %d: %d bytes, error %d; want none, %d", n, len(l), len(s), e, api.ErrLong)
			}
		}
	}
}

// TestOfHasNoBound: one text has at most 4096 bytes, all together may have more than a reader.
func TestOfHasNoBound(t *testing.T) {
	l := slices.Repeat([]string{drawn(12, 4096)}, 300)
	s, e := frame.Of(l...)
	if s != strings.Repeat(byHand(l[0]), 300) || e != api.OK {
		t.Errorf("%d bytes, error %d", len(s), e)
	}
	l = slices.Repeat([]string{""}, full)
	if s, e := frame.Of(l...); s != zeros(4*full) || e != api.OK {
		t.Errorf("%d bytes, error %d", len(s), e)
	}
}

func TestNewHasNothing(t *testing.T) {
	for _, r := range []*frame.Reader{frame.New(), frame.New().Fork(), taken(t, ""), taken(t, "", "")} {
		waits(t, r, 0)
		silent(t, r)
		takes(t, r, byHand("ab", ""), api.OK)
		waits(t, r, 10)
		tells(t, r, "ab", "")
		silent(t, r)
	}
}

// Promise 10.2.

// TestFull has readers at the bound, by one chunk and by several, of whole frames and of one that never comes.
func TestFull(t *testing.T) {
	whole := strings.Repeat(byHand(zeros(most-4)), full/most)
	for _, s := range []string{zeros(full), whole} {
		for _, size := range []int{full, full - 1, 1 << 19, 1000, 4097} {
			r := taken(t, inPieces(s, size)...)
			waits(t, r, full)
			for _, more := range []string{"x", zeros(2), zeros(full), zeros(full + 1), head(4097)} {
				takes(t, r, more, api.ErrLong)
				waits(t, r, full)
			}
			takes(t, r, "", api.OK)
			waits(t, r, full)
		}
	}
	for _, s := range []string{zeros(full + 1), zeros(full + 5), zeros(2 * full), whole + "\x00"} {
		r := frame.New()
		takes(t, r, s, api.ErrLong)
		waits(t, r, 0)
		silent(t, r)
		takes(t, r, byHand("ab"), api.OK)
		tells(t, r, "ab")
	}
}

// TestOneLess has a byte's room left, and a chunk that takes it, or is too much.
func TestOneLess(t *testing.T) {
	r := taken(t, zeros(full-1))
	waits(t, r, full-1)
	takes(t, r, "xy", api.ErrLong)
	takes(t, r, zeros(full), api.ErrLong)
	waits(t, r, full-1)
	takes(t, r, "x", api.OK)
	waits(t, r, full)
	takes(t, r, "y", api.ErrLong)
	for range full/4 - 1 {
		tells(t, r, "")
	}
	waits(t, r, 4) // three bytes 0 and the x, that tell 120
	silent(t, r)
	takes(t, r, zeros('x'-1), api.OK)
	silent(t, r)
	takes(t, r, "\x00", api.OK)
	tells(t, r, zeros('x'))
	waits(t, r, 0)
}

// TestRefusedChunkIsGone: what a full reader refuses neither stands in a later frame nor breaks it.
func TestRefusedChunkIsGone(t *testing.T) {
	first := drawn(13, 4000)
	for _, wrong := range []string{head(4097) + zeros(full), zeros(full + 1), drawn(14, full+2), head(1<<32-1) + zeros(full-3)} {
		for _, ahead := range []string{"", head(4000), head(4000) + first[:17], byHand(first), byHand(first) + head(4096), byHand(first) + "\x00\x00\x10"} {
			r, as := taken(t, ahead), plain{has: ahead}
			takes(t, r, wrong, api.ErrLong)
			waits(t, r, len(ahead))
			rest := (byHand(first, "behind") + zeros(5000))[min(len(ahead), 4004):]
			takes(t, r, rest, api.OK)
			as.take(rest)
			follows(t, r, &as)
		}
	}
}

// follows fails unless a reader tells all that a plain one does.
func follows(t *testing.T, r *frame.Reader, as *plain) {
	t.Helper()
	for {
		waits(t, r, len(as.has))
		s, ok := r.Next()
		want, there := as.next()
		if s != want || ok != there {
			t.Fatalf("Next: %d bytes, %v; want %d, %v", len(s), ok, len(want), there)
		}
		if !ok {
			break
		}
	}
	if as.broken {
		broken(t, r)
	}
}

// TestToldMakesRoom: whole frames count until they are told.
func TestToldMakesRoom(t *testing.T) {
	x := drawn(15, most-4)
	r := taken(t, strings.Repeat(byHand(x), full/most))
	takes(t, r, "a", api.ErrLong)
	tells(t, r, x)
	waits(t, r, full-most)
	takes(t, r, zeros(most+1), api.ErrLong)
	waits(t, r, full-most)
	takes(t, r, byHand(zeros(most-4)), api.OK)
	waits(t, r, full)
	takes(t, r, "a", api.ErrLong)
	for range full/most - 1 {
		tells(t, r, x)
	}
	waits(t, r, most)
	takes(t, r, zeros(full-most+1), api.ErrLong)
	takes(t, r, zeros(full-most), api.OK)
	tells(t, r, zeros(most-4))
	waits(t, r, full-most)
}

// TestLongestFrame: four bytes that tell 4096 are right.
func TestLongestFrame(t *testing.T) {
	x := drawn(16, most)
	r := taken(t, head(4096))
	waits(t, r, 4)
	silent(t, r)
	takes(t, r, x[:most-1], api.OK)
	silent(t, r)
	waits(t, r, 4+most-1)
	takes(t, r, x[most-1:]+"\x00", api.OK)
	tells(t, r, x)
	silent(t, r)
	waits(t, r, 1)
}

// TestBreaksAtOnce by the first four bytes, that come whole, piece by piece, and with more behind them.
func TestBreaksAtOnce(t *testing.T) {
	for _, w := range wrongHeads() {
		for _, more := range []string{"", "x", byHand("ab"), zeros(4097), drawn(17, full-4)} {
			broken(t, taken(t, w+more))
		}
		for cut := range 4 {
			r := taken(t, w[:cut])
			waits(t, r, cut)
			silent(t, r)
			takes(t, r, w[cut:]+"and more", api.OK)
			broken(t, r)
		}
		r := frame.New()
		for i := range 4 {
			waits(t, r, i)
			takes(t, r, w[i:i+1], api.OK)
		}
		broken(t, r)
	}
}

// TestBreaksByTake behind frames that were told.
func TestBreaksByTake(t *testing.T) {
	for _, w := range wrongHeads() {
		r := taken(t, byHand("a", "", "bc"))
		tells(t, r, "a", "", "bc")
		takes(t, r, w[:3], api.OK)
		waits(t, r, 3)
		silent(t, r)
		takes(t, r, "", api.OK)
		waits(t, r, 3)
		takes(t, r, w[3:], api.OK)
		broken(t, r)
	}
}

// TestBreaksByNext, when the frame ahead of the wrong four bytes is told, and not before.
func TestBreaksByNext(t *testing.T) {
	for _, w := range wrongHeads() {
		for _, ahead := range [][]string{{""}, {"a"}, {"a", "", drawn(18, 4096)}, {head(4097)}} {
			for _, more := range []string{"", "rest", byHand("ab"), zeros(5000)} {
				s := byHand(ahead...) + w + more
				r := taken(t, s)
				f := r.Fork()
				last := len(ahead) - 1
				for i, x := range ahead {
					waits(t, r, len(s)-len(byHand(ahead[:i]...)))
					takes(t, r, "", api.OK)
					tells(t, r, x)
					if i < last {
						takes(t, r.Fork(), "x", api.OK)
					}
				}
				broken(t, r)
				waits(t, f, len(s))
				takes(t, f, "y", api.OK)
				tells(t, f, ahead...)
				broken(t, f)
			}
		}
	}
}

// TestWrongBytesThatAreNoHead: only those at the place of a frame count.
func TestWrongBytesThatAreNoHead(t *testing.T) {
	x := strings.Repeat("\xff", 4096)
	r := taken(t, byHand(x)+head(5)+"\xff\xff\xff\xff")
	waits(t, r, 4096+12)
	tells(t, r, x)
	waits(t, r, 8)
	silent(t, r)
	takes(t, r, "\xff\xff\xff\xff", api.OK) // three of them stand where the next frame begins
	tells(t, r, "\xff\xff\xff\xff\xff")
	waits(t, r, 3)
	silent(t, r)
	takes(t, r, "\xff", api.OK)
	broken(t, r)
}

// TestBrokenComesFirst: too long a chunk for a broken reader is told as the reader's fault; what is too long does not break.
func TestBrokenComesFirst(t *testing.T) {
	r := taken(t, head(4097))
	takes(t, r, zeros(full+1), api.ErrFrame)
	r = frame.New()
	takes(t, r, head(4097)+zeros(full), api.ErrLong)
	waits(t, r, 0)
	takes(t, r, byHand("a"), api.OK)
	tells(t, r, "a")
	r = taken(t, head(1), zeros(full-4))
	takes(t, r, head(1<<32-1), api.ErrLong)
	tells(t, r, "\x00")
	waits(t, r, full-5)
}

// TestFullAndBreaks: a full reader breaks as any does.
func TestFullAndBreaks(t *testing.T) {
	r := taken(t, byHand("a")+head(4097)+zeros(full-9))
	waits(t, r, full)
	takes(t, r, "x", api.ErrLong)
	tells(t, r, "a")
	broken(t, r)
	r = taken(t, zeros(3), "\x00"+strings.Repeat("\xff", full-4))
	waits(t, r, full)
	tells(t, r, "")
	broken(t, r)
}

// Promise 10.3.

// TestNextTellsEachOnce, in order, and nothing of one that is not whole.
func TestNextTellsEachOnce(t *testing.T) {
	for _, l := range lists() {
		s := byHand(l...)
		r := taken(t, s)
		waits(t, r, len(s))
		for i, x := range l {
			waits(t, r, len(byHand(l[i:]...)))
			tells(t, r, x)
		}
		for range 3 {
			silent(t, r)
			waits(t, r, 0)
		}
	}
	for _, x := range []string{"", "a", drawn(19, 300), drawn(20, 4096)} {
		s := byHand(x)
		for n := range len(s) {
			r := taken(t, s[:n])
			for range 2 {
				silent(t, r)
				waits(t, r, n)
			}
			takes(t, r, s[n:], api.OK)
			tells(t, r, x)
		}
	}
}

// TestForkGoesItsOwnWay: the two take other chunks, and one is told what the other still has.
func TestForkGoesItsOwnWay(t *testing.T) {
	begun := byHand("one", "two") + head(6) + "thr"
	for swap := range 2 {
		r := taken(t, begun)
		f := r.Fork()
		if swap == 1 {
			r, f = f, r
		}
		waits(t, f, len(begun))
		tells(t, r, "one", "two")
		silent(t, r)
		waits(t, r, 7)
		waits(t, f, len(begun))
		takes(t, r, "ead"+byHand("four"), api.OK)
		takes(t, f, "ice", api.OK)
		takes(t, r, byHand("five"), api.OK)
		takes(t, f, head(4097), api.OK)
		tells(t, r, "thread", "four")
		tells(t, f, "one", "two", "thrice")
		broken(t, f)
		tells(t, r, "five")
		takes(t, r, byHand("six"), api.OK)
		tells(t, r, "six")
		waits(t, r, 0)
	}
}

// TestForksOfForks: each has what it was made of had at that moment. What comes byte by byte leaves spare room behind it, which none may share.
func TestForksOfForks(t *testing.T) {
	r := taken(t, strings.Split(byHand(drawn(21, 1000))+head(10)+"beginn", "")...)
	tells(t, r, drawn(21, 1000))
	l := []*frame.Reader{r}
	for i := range 5 {
		l = append(l, l[i].Fork(), r.Fork())
	}
	whole := taken(t, strings.Split(head(10)+"beginn", "")...)
	l = append(l, whole, whole.Fork(), whole.Fork())
	for i, f := range l {
		takes(t, f, strings.Repeat(string(rune('a'+i)), 4), api.OK)
	}
	for i, f := range l {
		waits(t, f, 14)
		tells(t, f, "beginn"+strings.Repeat(string(rune('a'+i)), 4))
		waits(t, f, 0)
	}
}

// TestForkOfFull: a fork has the same bound.
func TestForkOfFull(t *testing.T) {
	r := taken(t, zeros(full))
	f := r.Fork()
	takes(t, f, "x", api.ErrLong)
	tells(t, r, "")
	waits(t, f, full)
	takes(t, f, "x", api.ErrLong)
	takes(t, r, "xxxx", api.OK)
	takes(t, r, "x", api.ErrLong)
}

// Promise 10.4.

// TestChunks has what Of made come in pieces of each kind, empty ones between, told as early and as late as may be.
func TestChunks(t *testing.T) {
	for _, l := range lists() {
		s, e := frame.Of(l...)
		if e != api.OK {
			t.Fatalf("error %d", e)
		}
		for _, size := range []int{1, 2, 3, 4, 5, 7, 64, 4095, 4096, 4099, 4100, 4101, len(s) + 1} {
			late, early := frame.New(), frame.New()
			var out []string
			for _, c := range inPieces(s, size) {
				for _, piece := range []string{"", c, ""} {
					takes(t, late, piece, api.OK)
					takes(t, early, piece, api.OK)
				}
				for x, ok := early.Next(); ok; x, ok = early.Next() {
					out = append(out, x)
				}
			}
			if !slices.Equal(out, l) {
				t.Fatalf("pieces of %d: %d texts; want %d", size, len(out), len(l))
			}
			waits(t, early, 0)
			waits(t, late, len(s))
			tells(t, late, l...)
			silent(t, late)
		}
	}
}

// TestEachTwoCuts cuts one text of frames, and one that ends wrong, at each two places.
func TestEachTwoCuts(t *testing.T) {
	l := []string{"a", "", "bcd", "\xff\xff\xff\xff\xff", ""}
	for _, end := range []string{"", head(4096) + "x", head(4097) + "x"} {
		s := byHand(l...) + end
		for i := range len(s) + 1 {
			for j := i; j <= len(s); j++ {
				r := taken(t, s[:i], s[i:j], s[j:])
				tells(t, r, l...)
				silent(t, r)
				if end == head(4097)+"x" {
					broken(t, r)
				} else {
					waits(t, r, len(end))
				}
			}
		}
	}
}

// drawnStream is bytes that are mostly frames, now and then with wrong four bytes among them.
func drawnStream(by *rand.Rand, long int) string {
	var b []byte
	for len(b) < long {
		text := make([]byte, by.Intn(8))
		switch n := by.Intn(300); {
		case n == 0:
			b = append(b, wrongHeads()[by.Intn(len(wrongHeads()))]...)
			continue
		case n < 30:
			text = make([]byte, by.Intn(most+1))
		case n < 35:
			text = make([]byte, most-by.Intn(3))
		}
		by.Read(text)
		b = append(b, byHand(string(text))...)
	}
	return string(b)
}

// drawnChunk is one for a reader that has so many bytes: frames, a piece out of a stream, or about as many bytes as it has room for.
func drawnChunk(by *rand.Rand, stream string, has int) string {
	switch n := by.Intn(60); {
	case n == 0:
		return strings.Repeat(byHand(zeros(most-4)), full/most+1)[:full-has-3+by.Intn(6)]
	case n < 20 && has > 0:
		at := by.Intn(len(stream))
		return stream[at:min(len(stream), at+by.Intn(1<<by.Intn(13)))]
	}
	return drawnStream(by, 1+by.Intn(500))
}

// game is readers, each with a plain one beside it.
type game struct {
	by      *rand.Rand
	stream  string
	readers []*frame.Reader
	plains  []*plain
	refused int
}

// move is a drawn call of a drawn reader.
func (g *game) move(t *testing.T) {
	t.Helper()
	i := g.by.Intn(len(g.readers))
	r, p := g.readers[i], g.plains[i]
	switch n := g.by.Intn(16); {
	case n == 0:
		other := *p
		g.readers, g.plains = append(g.readers, r.Fork()), append(g.plains, &other)
	case n < 7:
		chunk := drawnChunk(g.by, g.stream, len(p.has))
		want := p.take(chunk)
		takes(t, r, chunk, want)
		if want == api.ErrLong {
			g.refused++
		}
	default:
		x, ok := r.Next()
		if want, there := p.next(); x != want || ok != there {
			t.Fatalf("Next: %d bytes, %v; want %d, %v", len(x), ok, len(want), there)
		}
	}
}

// TestAsPlain plays drawn calls with a reader by the chapter's words beside, forks of both among them.
func TestAsPlain(t *testing.T) {
	breaks, refused := 0, 0
	for seed := range int64(60) {
		by := rand.New(rand.NewSource(seed))
		g := game{by: by, stream: drawnStream(by, 20000), readers: []*frame.Reader{frame.New()}, plains: []*plain{{}}}
		for range 200 {
			g.move(t)
			for j, r := range g.readers {
				waits(t, r, len(g.plains[j].has))
			}
		}
		for i, r := range g.readers {
			follows(t, r, g.plains[i])
			if g.plains[i].broken {
				breaks++
			}
		}
		refused += g.refused
	}
	if breaks < 20 || refused < 20 {
		t.Errorf("%d readers broken, %d chunks refused: too few to tell", breaks, refused)
	}
}

// TestManyBytes: far more than a reader has at once go through one, and calls stay short with many bytes waiting.
func TestManyBytes(t *testing.T) {
	r := taken(t, strings.Repeat("\x00", full))
	for range 4 {
		for range full / 4 {
			tells(t, r, "")
			takes(t, r, "\x00\x00", api.OK)
			takes(t, r, "", api.OK)
			takes(t, r, "\x00\x00", api.OK)
		}
	}
	waits(t, r, full)
	r = frame.New()
	for range full {
		takes(t, r, "\x00", api.OK)
	}
	waits(t, r, full)
	x := drawn(22, 4096)
	r = frame.New()
	for range 1 << 14 {
		takes(t, r, byHand(x), api.OK)
		tells(t, r, x)
	}
	waits(t, r, 0)
}

// Rules that hold everywhere.

// TestListsAreLeft: neither the list nor what lies behind its length is written, and the latter is not read.
func TestListsAreLeft(t *testing.T) {
	behind := zeros(5000)
	for many := range 4 {
		list := []string{"a", "", "bc", behind}
		if s, e := frame.Of(list[:many]...); s != byHand(list[:many]...) || e != api.OK {
			t.Errorf("%d texts: %x, error %d", many, s, e)
		}
		if _, e := frame.Of(list...); e != api.ErrLong {
			t.Errorf("error %d", e)
		}
		if !slices.Equal(list, []string{"a", "", "bc", behind}) {
			t.Errorf("the list became %q", list[:3])
		}
	}
}

// TestChunksAreNotKept: memory of a chunk or text that is written anew later does not show, nor is it written.
func TestChunksAreNotKept(t *testing.T) {
	s := byHand("ab", drawn(23, 100))
	for _, size := range []int{len(s), 1, 5} {
		r := frame.New()
		var forks []*frame.Reader
		for _, c := range inPieces(s, size) {
			b := []byte(c)
			takes(t, r, unsafe.String(unsafe.SliceData(b), len(b)), api.OK)
			forks = append(forks, r.Fork())
			if string(b) != c {
				t.Fatal("the chunk was written")
			}
			for i := range b {
				b[i] = 'z'
			}
		}
		last := forks[len(forks)-1]
		for _, x := range []*frame.Reader{r, last} {
			tells(t, x, "ab", drawn(23, 100))
		}
	}
	b := []byte("ab")
	f, _ := frame.Of(unsafe.String(unsafe.SliceData(b), len(b)))
	copy(b, "zz")
	if f != byHand("ab") {
		t.Errorf("%x", f)
	}
}

// TestWhatWasToldStays: later calls, a break among them, leave answers as they were.
func TestWhatWasToldStays(t *testing.T) {
	r := frame.New()
	var out, want []string
	for i := range 500 {
		x := drawn(int64(i), i%40)
		takes(t, r, byHand(x, x), api.OK)
		s, ok := r.Next()
		if !ok {
			t.Fatal("no frame")
		}
		out = append(out, s)
		want = append(want, strings.Clone(s))
	}
	for s, ok := r.Next(); ok; s, ok = r.Next() {
		out = append(out, s)
		want = append(want, strings.Clone(s))
	}
	takes(t, r, head(4097), api.OK)
	broken(t, r)
	if len(out) != 1000 || !slices.Equal(out, want) {
		t.Errorf("%d frames, or other ones than were told", len(out))
	}
	for i, s := range out {
		if x := drawn(int64(i/2), i/2%40); s != x {
			t.Errorf("the frame %d: %x; want %x", i, s, x)
		}
	}
}

// TestToldIsNotKept: readers that had much, and were told nearly all of it, have little memory.
func TestToldIsNotKept(t *testing.T) {
	used := func() int64 {
		var m runtime.MemStats
		runtime.GC()
		runtime.ReadMemStats(&m)
		return int64(m.HeapAlloc)
	}
	x := zeros(most - 4)
	s := strings.Repeat(byHand(x), full/most-1) + "\x00"
	before := used()
	var l []*frame.Reader
	for range 64 {
		r := taken(t, s)
		for range full/most - 1 {
			tells(t, r, x)
		}
		waits(t, r, 1)
		l = append(l, r)
	}
	if more := used() - before; more > 16<<20 {
		t.Errorf("%d readers with a byte each have %d bytes", len(l), more)
	}
	runtime.KeepAlive(l)
	runtime.KeepAlive(s)
}

// TestReadersDoNotTouch: readers at the same time, and one after the other, tell the same.
func TestReadersDoNotTouch(t *testing.T) {
	var all sync.WaitGroup
	for size := 1; size <= 8; size++ {
		all.Go(func() {
			for _, l := range lists() {
				s, e := frame.Of(l...)
				r := frame.New()
				var out []string
				for _, c := range inPieces(s, size) {
					e = max(e, r.Take(c))
					for x, ok := r.Next(); ok; x, ok = r.Next() {
						out = append(out, x)
					}
				}
				if e != api.OK || !slices.Equal(out, l) {
					t.Errorf("pieces of %d: %d texts, error %d; want %d", size, len(out), e, len(l))
				}
			}
		})
	}
	all.Wait()
}
