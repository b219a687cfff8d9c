package wide_test

import (
	"fmt"
	"math"
	"math/rand"
	"strings"
	"sync"
	"testing"

	"dovecote/api"
	"dovecote/hash"
	"dovecote/keyed"
	"dovecote/stream"
	"dovecote/wide"
)

// drawn is a text of so many bytes, the same one in each run.
func drawn(seed int64, many int) string {
	b := make([]byte, many)
	rand.New(rand.NewSource(seed)).Read(b)
	return string(b)
}

// counted has so many bytes, from one on, each one more than that ahead.
func counted(from byte, many int) string {
	b := make([]byte, many)
	for i := range b {
		b[i] = from + byte(i)
	}
	return string(b)
}

// zeros has so many bytes 0.
func zeros(many int) string {
	return strings.Repeat("\x00", many)
}

// with is the text with another byte at a place.
func with(s string, at int, b byte) string {
	return s[:at] + string([]byte{b}) + s[at+1:]
}

// xored is both texts, byte by byte; they are of one length.
func xored(a, b string) string {
	x := []byte(a)
	for i := range x {
		x[i] ^= b[i]
	}
	return string(x)
}

// told is a length as two bytes, the higher one first.
func told(n int) string {
	return string([]byte{byte(n / 256), byte(n % 256)})
}

// plain is what Wrap shuts.
func plain(text string, n int) string {
	return zeros(32) + told(len(text)) + text + zeros(n-34-len(text))
}

// steps are the chapter's four in their order, each of a block that is whole, put together by keyed and stream.
func steps(key string) [4]func(block string) string {
	ks, _ := keyed.Derive(key, "wide", 128)
	right := func(k string) func(string) string {
		return func(block string) string {
			s, _ := stream.Bytes(xored(block[:32], k), zeros(12), len(block)-32)
			return block[:32] + xored(block[32:], s)
		}
	}
	left := func(k string) func(string) string {
		return func(block string) string {
			return xored(block[:32], keyed.Tag(k, block[32:])) + block[32:]
		}
	}
	return [4]func(string) string{right(ks[:32]), left(ks[32:64]), right(ks[64:96]), left(ks[96:])}
}

func shutByHand(key, block string) string {
	for _, step := range steps(key) {
		block = step(block)
	}
	return block
}

func openedByHand(key, block string) string {
	all := steps(key)
	for i := range all {
		block = all[3-i](block)
	}
	return block
}

// keys have all kinds of lengths: none is refused.
func keys() []string {
	return []string{"", "k", "\x00", "key", drawn(1, 31), drawn(2, 32), zeros(32), drawn(3, 33), drawn(4, 63), drawn(5, 64), drawn(6, 65), zeros(65), drawn(7, 1000)}
}

// lengths are right ones of blocks: the edges, and their neighbours; those at which the stream or the digest takes another block.
func lengths() []int {
	return []int{64, 65, 66, 80, 95, 96, 97, 100, 127, 128, 159, 160, 161, 256, 257, 290, 1000, 4096, 8190, 8191, 8192}
}

// shortLengths and longLengths are those of blocks that are refused.
func shortLengths() []int { return []int{0, 1, 31, 32, 33, 34, 62, 63} }

func longLengths() []int {
	return []int{8193, 8194, 8224, 8256, 10000, api.MaxBytes, api.MaxBytes + 1, 1 << 20}
}

// blocks are some of that length.
func blocks(n int) []string {
	return []string{zeros(n), strings.Repeat("\xff", n), counted(0, n), drawn(int64(n), n), zeros(n-1) + "\x01", "\x80" + zeros(n-1)}
}

// same fails unless a call answered this text, and OK.
func same(t *testing.T, what, want, got string, e api.Errno) {
	t.Helper()
	if got != want || e != api.OK {
		t.Errorf("%s: %x, error %d; want %x", what, got, e, want)
	}
}

// refused fails unless a call answered this error, and an empty text.
func refused(t *testing.T, what string, want api.Errno, got string, e api.Errno) {
	t.Helper()
	if got != "" || e != want {
		t.Errorf("%s: %x, error %d; want an empty text and error %d", what, got, e, want)
	}
}

// shut, opened and wrapped fail if the call is refused.
func shut(t *testing.T, key, block string) string {
	t.Helper()
	s, e := wide.Shut(key, block)
	if e != api.OK {
		t.Fatalf("Shut of %d bytes: error %d", len(block), e)
	}
	return s
}

func opened(t *testing.T, key, block string) string {
	t.Helper()
	s, e := wide.Open(key, block)
	if e != api.OK {
		t.Fatalf("Open of %d bytes: error %d", len(block), e)
	}
	return s
}

func wrapped(t *testing.T, key, text string, n int) string {
	t.Helper()
	s, e := wide.Wrap(key, text, n)
	if e != api.OK {
		t.Fatalf("Wrap of %d bytes into %d: error %d", len(text), n, e)
	}
	return s
}

// Promise 6.1.

// TestVectors has blocks that another program made, out of HMAC and HKDF of its library and a ChaCha20 of its own.
func TestVectors(t *testing.T) {
	s, e := wide.Shut("key", strings.Repeat("abcdefgh", 10))
	same(t, "Shut", "7be1072b04d5f5f9faadabe1b3fc9b8b3f49095420a9c58a2659b7f7e55658f284b9f393ab6b32de0695ae64b6a107dda1a5929e16f28b86a9a12b89dba61a382b2684f5a587f83360d681f4e0f018cf", hash.Hex(s), e)
	s, e = wide.Shut("", zeros(64))
	same(t, "Shut under no key", "f1380d67dbcb49cd67abe01b68f0527cdefdc3b0c6d9bb4735374f2507e9c957446544c9bc38277206f83822d816c509a9132b1ca7da81deb895a5383eb022c3", hash.Hex(s), e)
	s, e = wide.Shut(counted(0, 65), counted(0, 8192))
	same(t, "the digest of Shut", "43e856206bf3a2f04e7aa5a8060f8ebabeeae7c201140545d300e4b929b7b243", hash.Hex(hash.Sum(s)), e)
	s, e = wide.Open("key", counted(0, 64))
	same(t, "Open", "7b4df2c73f4b61ddf61143a3bfc5465bcfd4ef41dd353079fc50af012803508c2888d96b2001617b509bd2a729ad70b4fece6fa6a3e7b3f6cf061e4e4b378989", hash.Hex(s), e)
	s, e = wide.Open(counted(0, 32), counted(1, 8192))
	same(t, "the digest of Open", "356bedc416fa6389b8da8cfaa2108ec10fbe1e3cf41b8a9d9fa5171de21ca5d7", hash.Hex(hash.Sum(s)), e)
	s, e = wide.Wrap("k", "hello", 100)
	same(t, "Wrap", "7ccc1519744a264b35aff663d2e04bc8519268d8c1181c7772090433789f6f46509938f6c84c28e080f6effa373d668c6357155cac280cfefa2bd7427850aa133817be9eef65a5b5d81a8fd1989cc8297cca7f51f7297f37088d47e305da87df8049bff7", hash.Hex(s), e)
	s, e = wide.Wrap("k", "", 64)
	same(t, "Wrap of nothing", "31a32f4835ceacde7a71a16dd492a79ce5f4ef8dba6b39cc350e2b5f657fc1324833d095490d64c197927a77ad9306e810511b3c1bb45c410a988dd474f5b73e", hash.Hex(s), e)
	s, e = wide.Wrap(counted(0, 64), counted(7, 300), 8192)
	same(t, "the digest of Wrap", "ce96af0767ce5fcc950b71d761e385cab654c5f39dede7144eccd73fa7996d28", hash.Hex(hash.Sum(s)), e)
}

func TestByHand(t *testing.T) {
	for _, key := range keys() {
		for _, n := range []int{64, 65, 100, 256} {
			for _, block := range blocks(n) {
				s, e := wide.Shut(key, block)
				same(t, "Shut", shutByHand(key, block), s, e)
				s, e = wide.Open(key, block)
				same(t, "Open", openedByHand(key, block), s, e)
			}
		}
	}
	for _, n := range lengths() {
		for _, block := range blocks(n) {
			s, e := wide.Shut("key", block)
			same(t, "Shut", shutByHand("key", block), s, e)
			s, e = wide.Open("key", block)
			same(t, "Open", openedByHand("key", block), s, e)
		}
	}
}

// TestBlocksRefused: whatever the key is. What Open refuses, Unwrap does.
func TestBlocksRefused(t *testing.T) {
	look := func(want api.Errno, key, block string) {
		what := fmt.Sprintf("a block of %d bytes, a key of %d", len(block), len(key))
		s, e := wide.Shut(key, block)
		refused(t, "Shut: "+what, want, s, e)
		s, e = wide.Open(key, block)
		refused(t, "Open: "+what, want, s, e)
		s, e = wide.Unwrap(key, block)
		refused(t, "Unwrap: "+what, want, s, e)
	}
	for _, key := range keys() {
		for _, n := range shortLengths() {
			look(api.ErrForm, key, zeros(n))
			look(api.ErrForm, key, drawn(10, n))
		}
		for _, n := range longLengths() {
			look(api.ErrLong, key, zeros(n))
			look(api.ErrLong, key, drawn(11, n))
		}
	}
}

// TestEveryLength: which lengths are right ones, one by one around both edges.
func TestEveryLength(t *testing.T) {
	look := func(n int, want api.Errno) {
		block := counted(0, n)
		s, e := wide.Shut("key", block)
		if e != want || e == api.OK && len(s) != n {
			t.Errorf("Shut of %d bytes: %d bytes, error %d; want error %d", n, len(s), e, want)
		}
		s, e = wide.Open("key", block)
		if e != want || e == api.OK && len(s) != n {
			t.Errorf("Open of %d bytes: %d bytes, error %d; want error %d", n, len(s), e, want)
		}
		if want == api.OK {
			want = api.ErrBody
		}
		s, e = wide.Unwrap("key", block)
		refused(t, fmt.Sprintf("Unwrap of %d bytes", n), want, s, e)
	}
	for n := range 64 {
		look(n, api.ErrForm)
	}
	for n := 64; n < 330; n++ {
		look(n, api.OK)
	}
	for n := 8180; n <= 8192; n++ {
		look(n, api.OK)
	}
	for n := 8193; n < 8200; n++ {
		look(n, api.ErrLong)
	}
}

// TestEachByteHangsOnAll turns each bit of a block in its turn: nearly all bytes of what is shut, and of what is opened, are others, in both halves.
func TestEachByteHangsOnAll(t *testing.T) {
	key, block := drawn(20, 32), drawn(21, 256)
	look := func(what string, a, b string) {
		for i, half := range [][2]int{{0, 32}, {32, 256}} {
			alike := 0
			for at := half[0]; at < half[1]; at++ {
				if a[at] == b[at] {
					alike++
				}
			}
			if 4*alike > half[1]-half[0] {
				t.Errorf("%s: %d bytes of half %d are alike", what, alike, i)
			}
		}
	}
	firstShut, firstOpened := shut(t, key, block), opened(t, key, block)
	look("Shut changes nothing", block, firstShut)
	look("Open changes nothing", block, firstOpened)
	for i := range 256 * 8 {
		other := with(block, i/8, block[i/8]^1<<(i%8))
		look(fmt.Sprintf("bit %d turned, Shut", i), firstShut, shut(t, key, other))
		look(fmt.Sprintf("bit %d turned, Open", i), firstOpened, opened(t, key, other))
	}
}

// TestEachKeyIsAnother: also where a key is longer by bytes 0 alone, or is the digest of another.
func TestEachKeyIsAnother(t *testing.T) {
	l := append(keys(), "\x00\x00", "k\x00", zeros(64), hash.Sum(drawn(6, 65)), drawn(5, 64)+"\x00", "wide", "dovecote")
	for i := range 32 * 8 {
		l = append(l, with(drawn(2, 32), i/8, drawn(2, 32)[i/8]^1<<(i%8)))
	}
	byShut, byOpen := map[string]string{}, map[string]string{}
	for _, key := range l {
		s, o := shut(t, key, counted(0, 64)), opened(t, key, counted(0, 64))
		if other, ok := byShut[s]; ok {
			t.Errorf("Shut under %x and %x: the same block", key, other)
		}
		if other, ok := byOpen[o]; ok {
			t.Errorf("Open under %x and %x: the same block", key, other)
		}
		byShut[s], byOpen[o] = key, key
	}
}

// Promise 6.2.

func TestExample(t *testing.T) {
	b := wrapped(t, "k", "hello", 100)
	s, e := wide.Unwrap("k", b)
	same(t, "Unwrap under k", "hello", s, e)
	s, e = wide.Unwrap("another key", b)
	refused(t, "Unwrap under another key", api.ErrBody, s, e)
}

// texts are such as have room in a block of n bytes: the edges of that, of the length's lower byte, and their neighbours.
func texts(n int) []string {
	l := []string{"\x00", zeros(n - 34), strings.Repeat("\xff", n-34), "ends with 0\x00"}
	for _, many := range []int{0, 1, 2, 5, 30, 31, 254, 255, 256, 257, 258, 511, 512, 513, n - 36, n - 35, n - 34} {
		if many <= n-34 {
			l = append(l, drawn(int64(many), many))
		}
	}
	return l
}

func TestWrapByHand(t *testing.T) {
	for _, n := range lengths() {
		for _, text := range texts(n) {
			s, e := wide.Wrap("key", text, n)
			same(t, fmt.Sprintf("Wrap of %d bytes into %d", len(text), n), shutByHand("key", plain(text, n)), s, e)
			same(t, "opened", plain(text, n), opened(t, "key", s), e)
		}
	}
	for _, key := range keys() {
		s, e := wide.Wrap(key, "hello", 256)
		same(t, "Wrap", shutByHand(key, plain("hello", 256)), s, e)
	}
}

// TestLengthBytes: the higher byte of the length stands first.
func TestLengthBytes(t *testing.T) {
	for many, want := range map[int]string{0: "\x00\x00", 1: "\x00\x01", 255: "\x00\xff", 256: "\x01\x00", 257: "\x01\x01", 4660: "\x12\x34", 8158: "\x1f\xde"} {
		s := opened(t, "key", wrapped(t, "key", strings.Repeat("x", many), 8192))
		same(t, fmt.Sprintf("the length %d", many), want, s[32:34], api.OK)
	}
}

// TestWrapRefused: n is looked at ahead of the text, whose room hangs on it; n as low or as high as it gets neither wraps round nor makes a block.
func TestWrapRefused(t *testing.T) {
	some := []string{"", "x", zeros(29), zeros(30), zeros(31), zeros(8158), zeros(8159), zeros(8160), zeros(api.MaxBytes + 1)}
	for _, key := range keys() {
		for _, text := range some {
			for _, n := range []int{-1, -2, -34, -64, -8192, 0, 1, 33, 34, 35, 62, 63, math.MinInt, math.MinInt + 33, math.MinInt + 34, -1 << 32, 64 - 1<<32} {
				s, e := wide.Wrap(key, text, n)
				refused(t, fmt.Sprintf("Wrap of %d bytes into %d", len(text), n), api.ErrForm, s, e)
			}
			for _, n := range []int{8193, 8194, 10000, 1 << 16, 1<<16 + 64, 1 << 32, 1<<32 + 64, math.MaxInt, math.MaxInt - 33} {
				s, e := wide.Wrap(key, text, n)
				refused(t, fmt.Sprintf("Wrap of %d bytes into %d", len(text), n), api.ErrLong, s, e)
			}
		}
	}
	for _, n := range lengths() {
		for _, more := range []int{n - 33, n - 32, n, n + 1, 2 * n, 1 << 16, 1<<16 + 1, 1 << 20} {
			s, e := wide.Wrap("key", strings.Repeat("x", more), n)
			refused(t, fmt.Sprintf("Wrap of %d bytes into %d", more, n), api.ErrLong, s, e)
		}
	}
}

// TestOtherKeyRefused: what was wrapped under one key is none under another.
func TestOtherKeyRefused(t *testing.T) {
	for _, key := range keys() {
		for _, text := range []string{"", "hello", drawn(30, 222)} {
			b := wrapped(t, key, text, 256)
			for _, other := range keys() {
				if other != key {
					s, e := wide.Unwrap(other, b)
					refused(t, fmt.Sprintf("Unwrap under %x of what was wrapped under %x", other, key), api.ErrBody, s, e)
				}
			}
		}
	}
}

// TestChangedBlockRefused turns each byte of a wrapped block; what is longer or shorter is none either.
func TestChangedBlockRefused(t *testing.T) {
	for _, text := range []string{"", "hello", drawn(31, 222)} {
		b := wrapped(t, "key", text, 256)
		for at := range b {
			for _, by := range []byte{1, 0x80, 0xff} {
				s, e := wide.Unwrap("key", with(b, at, b[at]^by))
				refused(t, fmt.Sprintf("byte %d turned", at), api.ErrBody, s, e)
			}
		}
		for _, other := range []string{b + "\x00", b[:255], b[1:], b[1:] + b[:1], b + b, shut(t, "key", b), opened(t, "key", b)} {
			s, e := wide.Unwrap("key", other)
			refused(t, "another block", api.ErrBody, s, e)
		}
	}
}

// TestBeginningRefused: each of the 32 bytes ahead must be 0.
func TestBeginningRefused(t *testing.T) {
	for _, n := range []int{64, 100, 256, 8192} {
		for _, text := range []string{"", "hello", drawn(32, n-34)} {
			p := plain(text, n)
			for at := range 32 {
				for _, b := range []byte{1, 0x10, 0x80, 0xff} {
					s, e := wide.Unwrap("key", shutByHand("key", with(p, at, b)))
					refused(t, fmt.Sprintf("%d at %d of %d bytes", b, at, n), api.ErrBody, s, e)
				}
			}
			// Two that would come to 0 if they were only added up, or xored.
			s, e := wide.Unwrap("key", shutByHand("key", with(with(p, 3, 0x80), 30, 0x80)))
			refused(t, "128 twice", api.ErrBody, s, e)
			s, e = wide.Unwrap("key", shutByHand("key", strings.Repeat("\xff", 32)+p[32:]))
			refused(t, "no byte 0 ahead", api.ErrBody, s, e)
		}
	}
}

// TestToldLength: a block without a byte 0 from the text on has that length alone which fills it; without another one, all lengths that it has room for.
func TestToldLength(t *testing.T) {
	for _, n := range []int{64, 65, 100, 256, 289, 290, 291, 546, 8191, 8192} {
		for _, many := range []int{0, 1, 30, 31, 64, 255, 256, 257, 511, 512, n - 36, n - 35, n - 34, n - 33, n - 32, n, n + 1, 8158, 8159, 8192, 1 << 15, 1<<16 - 256, 1<<16 - 34, 1<<16 - 1} {
			what := fmt.Sprintf("the length %d in %d bytes", many, n)
			full := strings.Repeat("x", n-34)
			s, e := wide.Unwrap("key", shutByHand("key", zeros(32)+told(many)+full))
			if many == n-34 {
				same(t, what, full, s, e)
			} else {
				refused(t, what, api.ErrBody, s, e)
			}
			s, e = wide.Unwrap("key", shutByHand("key", zeros(32)+told(many)+zeros(n-34)))
			if many <= n-34 {
				same(t, what, zeros(many), s, e)
			} else {
				refused(t, what, api.ErrBody, s, e)
			}
		}
	}
}

// TestBehindTextRefused: each byte behind the text must be 0; those of the text may be any.
func TestBehindTextRefused(t *testing.T) {
	for _, n := range []int{64, 100, 256} {
		for _, many := range []int{0, 1, 5, 29, n - 36, n - 35, n - 34} {
			p := plain(drawn(33, many), n)
			for at := 34; at < n; at++ {
				for _, b := range []byte{1, 0x80, 0xff} {
					what := fmt.Sprintf("%d at %d, a text of %d in %d bytes", b, at, many, n)
					other := with(p, at, b)
					s, e := wide.Unwrap("key", shutByHand("key", other))
					if at < 34+many {
						same(t, what, other[34:34+many], s, e)
					} else {
						refused(t, what, api.ErrBody, s, e)
					}
				}
			}
		}
	}
	p := plain("hello", 8192)
	for _, at := range []int{39, 40, 63, 64, 4096, 8190, 8191} {
		s, e := wide.Unwrap("key", shutByHand("key", with(p, at, 1)))
		refused(t, fmt.Sprintf("1 at %d of 8192 bytes", at), api.ErrBody, s, e)
	}
	s, e := wide.Unwrap("key", shutByHand("key", with(with(p, 50, 0x80), 60, 0x80)))
	refused(t, "128 twice", api.ErrBody, s, e)
}

// TestSeveralWrong: all that is wrong of what is opened is one error.
func TestSeveralWrong(t *testing.T) {
	for _, p := range []string{
		strings.Repeat("\xff", 64),
		"\x01" + zeros(31) + "\xff\xff" + zeros(30),
		zeros(31) + "\x01" + told(5) + strings.Repeat("x", 30),
		zeros(32) + told(31) + strings.Repeat("x", 30),
		"\x01" + zeros(31) + told(31) + strings.Repeat("x", 8192-34),
	} {
		s, e := wide.Unwrap("key", shutByHand("key", p))
		refused(t, fmt.Sprintf("%x", p), api.ErrBody, s, e)
	}
}

// Promise 6.3.

func TestThereAndBack(t *testing.T) {
	look := func(key, block string) {
		s, o := shut(t, key, block), opened(t, key, block)
		if len(s) != len(block) || len(o) != len(block) || s == block || o == block || s == o {
			t.Errorf("a block of %d bytes under %x: shut %x, opened %x", len(block), key, s, o)
		}
		back, e := wide.Open(key, s)
		same(t, "shut and opened", block, back, e)
		back, e = wide.Shut(key, o)
		same(t, "opened and shut", block, back, e)
	}
	for _, n := range lengths() {
		for _, block := range blocks(n) {
			look("key", block)
			look(drawn(40, 32), block)
		}
	}
	for _, key := range keys() {
		for _, block := range blocks(256) {
			look(key, block)
		}
	}
}

// TestLayers: blocks that are shut under several keys are opened under them, the last one first, as a payload of several hops is.
func TestLayers(t *testing.T) {
	b := wrapped(t, "a", "hi", api.Payload)
	for _, key := range []string{"b", "c", "d", "e"} {
		b = shut(t, key, b)
	}
	for _, key := range []string{"e", "d", "c", "b"} {
		s, e := wide.Unwrap("a", b)
		refused(t, "Unwrap ahead of its turn", api.ErrBody, s, e)
		b = opened(t, key, b)
	}
	s, e := wide.Unwrap("a", b)
	same(t, "Unwrap", "hi", s, e)
}

func TestWrappedAndUnwrapped(t *testing.T) {
	look := func(key, text string, n int) {
		b := wrapped(t, key, text, n)
		if len(b) != n {
			t.Errorf("Wrap of %d bytes into %d: %d bytes", len(text), n, len(b))
		}
		s, e := wide.Unwrap(key, b)
		same(t, fmt.Sprintf("wrapped into %d bytes, and unwrapped", n), text, s, e)
	}
	for _, n := range lengths() {
		for _, text := range texts(n) {
			look("key", text, n)
		}
	}
	for _, key := range keys() {
		for _, text := range texts(api.Payload) {
			look(key, text, api.Payload)
		}
	}
	for many := range 300 {
		look("key", strings.Repeat("\x01", many), many+64)
	}
}

// Rules that hold everywhere.

// TestCallsDoNotTouch: calls at the same time, and one after the other, tell the same.
func TestCallsDoNotTouch(t *testing.T) {
	var all sync.WaitGroup
	for range 8 {
		all.Go(func() {
			for i, key := range keys() {
				block, text := drawn(int64(i), 256), drawn(int64(i), 100)
				for range 2 {
					s, e := wide.Shut(key, block)
					same(t, "Shut", shutByHand(key, block), s, e)
					s, e = wide.Open(key, block)
					same(t, "Open", openedByHand(key, block), s, e)
					s, e = wide.Wrap(key, text, 256)
					same(t, "Wrap", shutByHand(key, plain(text, 256)), s, e)
					s, e = wide.Unwrap(key, s)
					same(t, "Unwrap", text, s, e)
				}
			}
		})
	}
	all.Wait()
}
