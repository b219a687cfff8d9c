package hash_test

import (
	"crypto/sha256"
	"encoding/binary"
	"encoding/hex"
	"math"
	"math/rand"
	"slices"
	"strings"
	"sync"
	"testing"

	"dovecote/api"
	"dovecote/hash"
)

// digits reads hexadecimal digits.
func digits(s string) string {
	b, err := hex.DecodeString(s)
	if err != nil {
		panic(err)
	}
	return string(b)
}

// library is the digest as Go's own library has it.
func library(l ...string) string {
	h := sha256.New()
	for _, s := range l {
		h.Write([]byte(s))
	}
	return string(h.Sum(nil))
}

// bound are the bound pieces as one text, put together by hand.
func bound(l ...string) string {
	var b []byte
	for _, s := range l {
		b = binary.BigEndian.AppendUint64(b, uint64(len(s)))
		b = append(b, s...)
	}
	return string(b)
}

// drawn is a text of so many bytes, the same one in each run.
func drawn(seed int64, many int) string {
	b := make([]byte, many)
	rand.New(rand.NewSource(seed)).Read(b)
	return string(b)
}

// everyByte has each byte once, from 0 on.
func everyByte() string {
	b := make([]byte, 256)
	for i := range b {
		b[i] = byte(i)
	}
	return string(b)
}

// edges are the lengths at which what stands behind a text takes another block, and their neighbours.
func edges() []int {
	return []int{0, 1, 2, 3, 4, 5, 54, 55, 56, 57, 62, 63, 64, 65, 118, 119, 120, 121, 127, 128, 129, 182, 183, 184, 191, 192, 193}
}

// lists are such as could be taken for one another.
func lists() [][]string {
	return [][]string{
		nil, {""}, {"", ""}, {"", "", ""},
		{"a"}, {"", "a"}, {"a", ""}, {"", "a", ""}, {"a", "", ""},
		{"ab"}, {"a", "b"}, {"b", "a"}, {"a", "", "b"},
		{"abc"}, {"a", "bc"}, {"ab", "c"}, {"a", "b", "c"}, {"", "abc"}, {"abc", ""},
		{"\x00"}, {"\x00", "\x00"}, {"\x00\x00"},
		{bound("")}, {bound("", "")}, {bound("a")}, {bound("a", "b")}, {"a" + bound("b")}, {"a" + bound("", "b")},
		{drawn(1, 64)}, {drawn(1, 64)[:56], drawn(1, 64)[56:]}, {drawn(1, 64)[:32], drawn(1, 64)[32:]},
		{strings.Repeat("a", 255)}, {strings.Repeat("a", 256)}, {strings.Repeat("a", 255), "a"},
	}
}

// same fails unless a call answered this text.
func same(t *testing.T, what, want, got string) {
	t.Helper()
	if got != want {
		t.Errorf("%s: %x; want %x", what, got, want)
	}
}

// Promise 3.1.

func TestExample(t *testing.T) {
	same(t, "Hex of Sum", "ba7816bf8f01cfea414140de5dae2223b00361a396177a9cb410ff61f20015ad", hash.Hex(hash.Sum("ab", "c")))
}

// TestVectors has those that NIST publishes beside FIPS 180-4.
func TestVectors(t *testing.T) {
	for _, v := range [][2]string{
		{"", "e3b0c44298fc1c149afbf4c8996fb92427ae41e4649b934ca495991b7852b855"},
		{"abc", "ba7816bf8f01cfea414140de5dae2223b00361a396177a9cb410ff61f20015ad"},
		{"abcdbcdecdefdefgefghfghighijhijkijkljklmklmnlmnomnopnopq", "248d6a61d20638b8e5c026930c3e6039a33ce45964ff2167f6ecedd419db06c1"},
		{"abcdefghbcdefghicdefghijdefghijkefghijklfghijklmghijklmnhijklmnoijklmnopjklmnopqklmnopqrlmnopqrsmnopqrstnopqrstu", "cf5b16a778af8380036ce59e7b0492370b249b11e8f07a51afac45037afee9d1"},
		{strings.Repeat("a", 1000000), "cdc76e5c9914fb9281a1c7e284d73e67f1809a48a497200e046d39ccc7112cd0"},
		{"\xbd", "68325720aabd7c82f30f554b313d0570c95accbb7dc4b5aae11204c08ffe732b"},
		{"\xc9\x8c\x8e\x55", "7abc22c0ae5af26ce93dbb94433a0e0b2e119d014f8e7f65bd56c61ccccd9504"},
		{strings.Repeat("\x00", 55), "02779466cdec163811d078815c633f21901413081449002f24aa3e80f0b88ef7"},
		{strings.Repeat("\x00", 56), "d4817aa5497628e7c77e6b606107042bbba3130888c5f47a375e6179be789fbb"},
		{strings.Repeat("\x00", 57), "65a16cb7861335d5ace3c60718b5052e44660726da4cd13bb745381b235a1785"},
		{strings.Repeat("\x00", 64), "f5a5fd42d16a20302798ef6ed309979b43003d2320d9f0e8ea9831a92759fb4b"},
		{strings.Repeat("\x00", 1000), "541b3e9daa09b20bf85fa273e5cbd3e80185aa4ec298e765db87742b70138a53"},
		{strings.Repeat("A", 1000), "c2e686823489ced2017f6059b8b239318b6364f6dcd835d0a519105a1eadd6e4"},
		{strings.Repeat("U", 1005), "f4d62ddec0f3dd90ea1380fa16a5ff8dc4c54b21740650f24afc4120903552b0"},
	} {
		same(t, "Sum", digits(v[1]), hash.Sum(v[0]))
	}
}

// TestEveryLength has all lengths of up to four blocks and more, the edges among them, of three kinds of bytes.
func TestEveryLength(t *testing.T) {
	for n := range 300 {
		for _, s := range []string{drawn(int64(n), n), strings.Repeat("\x00", n), strings.Repeat("\xff", n)} {
			same(t, "Sum", library(s), hash.Sum(s))
		}
	}
	for _, n := range edges() {
		if s := hash.Sum(drawn(2, n)); len(s) != 32 {
			t.Errorf("a text of %d bytes: a digest of %d", n, len(s))
		}
	}
}

// TestEveryBit changes each bit of a text of two blocks and a piece.
func TestEveryBit(t *testing.T) {
	text := drawn(3, 130)
	for bit := range 8 * len(text) {
		b := []byte(text)
		b[bit/8] ^= 1 << (bit % 8)
		same(t, "Sum", library(string(b)), hash.Sum(string(b)))
	}
}

func TestNoPiece(t *testing.T) {
	want := library("")
	same(t, "Sum of none", want, hash.Sum())
	same(t, "Sum of nil", want, hash.Sum([]string(nil)...))
	same(t, "Sum of an empty list", want, hash.Sum([]string{}...))
	same(t, "Sum of an empty piece", want, hash.Sum(""))
	same(t, "Sum of empty pieces", want, hash.Sum(make([]string, 1000)...))
	same(t, "Bind of none", want, hash.Bind())
	same(t, "Bind of nil", want, hash.Bind([]string(nil)...))
	same(t, "Bind of an empty list", want, hash.Bind([]string{}...))
}

// TestLongText has more bits than 32 bits can count.
func TestLongText(t *testing.T) {
	if testing.Short() {
		t.Skip("half a gigabyte")
	}
	l := slices.Repeat([]string{drawn(4, 1<<20)}, 1<<9)
	l = append(l, "and more")
	same(t, "Sum", library(l...), hash.Sum(l...))
}

// TestBindByHand holds it against the lengths and pieces as one text.
func TestBindByHand(t *testing.T) {
	for _, l := range lists() {
		same(t, "Bind", library(bound(l...)), hash.Bind(l...))
		same(t, "Bind as Sum", hash.Sum(bound(l...)), hash.Bind(l...))
	}
	for _, n := range append(edges(), 255, 256, 257, 1<<16-1, 1<<16, 1<<16+1, 1<<24+5) {
		s := drawn(int64(n), n)
		same(t, "Bind of one", library(bound(s)), hash.Bind(s))
		same(t, "Bind of three", library(bound("x", s, "")), hash.Bind("x", s, ""))
	}
	same(t, "Bind of abc", library("\x00\x00\x00\x00\x00\x00\x00\x03abc"), hash.Bind("abc"))
	same(t, "Bind of an empty piece", library("\x00\x00\x00\x00\x00\x00\x00\x00"), hash.Bind(""))
	same(t, "Bind of 258 bytes", library("\x00\x00\x00\x00\x00\x00\x01\x02", drawn(5, 258)), hash.Bind(drawn(5, 258)))
}

func TestShortIsABeginning(t *testing.T) {
	for _, l := range lists() {
		for n := 1; n <= 32; n++ {
			s, e := hash.Short(n, l...)
			if e != api.OK {
				t.Fatalf("Short of %d: error %d", n, e)
			}
			same(t, "Short", library(l...)[:n], s)
		}
	}
}

func TestShortRefused(t *testing.T) {
	for _, n := range []int{0, -1, 33, 34, -31, -32, -33, 64, 256, 257, 1 << 32, 1<<32 + 1, -1 << 32, math.MaxInt, math.MinInt} {
		for _, l := range lists() {
			if s, e := hash.Short(n, l...); s != "" || e != api.ErrRange {
				t.Errorf("Short of %d: %x, error %d; want an empty text and error %d", n, s, e, api.ErrRange)
			}
		}
	}
}

func TestHex(t *testing.T) {
	same(t, "Hex of no byte", "", hash.Hex(""))
	same(t, "Hex", "00017f80ff0af0", hash.Hex("\x00\x01\x7f\x80\xff\x0a\xf0"))
	same(t, "Hex of every byte", hex.EncodeToString([]byte(everyByte())), hash.Hex(everyByte()))
	for i := range 256 {
		b := byte(i)
		same(t, "Hex of one byte", hex.EncodeToString([]byte{b}), hash.Hex(string([]byte{b})))
	}
	long := drawn(6, 100000)
	same(t, "Hex of many bytes", hex.EncodeToString([]byte(long)), hash.Hex(long))
}

// Promise 3.2.

// TestWhereSumIsCut cuts one text at each place, and at each two places, empty pieces between.
func TestWhereSumIsCut(t *testing.T) {
	text := drawn(7, 150)
	want := library(text)
	for i := range len(text) + 1 {
		same(t, "in two", want, hash.Sum(text[:i], text[i:]))
		same(t, "in two, empty ones around", want, hash.Sum("", text[:i], "", "", text[i:], ""))
		for j := i; j <= len(text); j++ {
			same(t, "in three", want, hash.Sum(text[:i], text[i:j], text[j:]))
		}
	}
}

func TestPiecesOfOneLength(t *testing.T) {
	for _, n := range edges() {
		text := drawn(8, n)
		for _, size := range []int{1, 2, 3, 7, 8, 31, 55, 56, 63, 64, 65} {
			var l []string
			for rest := text; rest != ""; {
				k := min(size, len(rest))
				l = append(l, rest[:k])
				rest = rest[k:]
			}
			same(t, "Sum", library(text), hash.Sum(l...))
			short, e := hash.Short(20, l...)
			if e != api.OK {
				t.Errorf("error %d", e)
			}
			same(t, "Short", library(text)[:20], short)
		}
	}
	many := strings.Split(drawn(9, 100000), "")
	same(t, "Sum of many pieces", library(many...), hash.Sum(many...))
	same(t, "Bind of many pieces", library(bound(many...)), hash.Bind(many...))
}

func TestUnlikeListsBindUnlike(t *testing.T) {
	all := lists()
	for i, l := range all {
		for _, o := range all[:i] {
			if hash.Bind(l...) == hash.Bind(o...) {
				t.Errorf("%q and %q bind to the same", l, o)
			}
		}
	}
	text, first := drawn(10, 200), map[string]int{}
	for i := range len(text) + 1 {
		s := hash.Bind(text[:i], text[i:])
		if j, ok := first[s]; ok {
			t.Errorf("cut at %d and at %d: the same", i, j)
		}
		first[s] = i
	}
}

// Rules that hold everywhere.

// TestListsAreLeft: neither the list nor what lies behind its length is written, and the latter is not read.
func TestListsAreLeft(t *testing.T) {
	for many := range 4 {
		whole := []string{"a", "bc", "", "behind"}
		l := whole[:many]
		want := slices.Clone(l)
		same(t, "Sum", library(want...), hash.Sum(l...))
		same(t, "Bind", library(bound(want...)), hash.Bind(l...))
		s, _ := hash.Short(5, l...)
		same(t, "Short", library(want...)[:5], s)
		if !slices.Equal(whole, []string{"a", "bc", "", "behind"}) {
			t.Errorf("the list became %q", whole)
		}
	}
}

// TestCallsDoNotTouch: calls at the same time, and one after the other, tell the same.
func TestCallsDoNotTouch(t *testing.T) {
	var all sync.WaitGroup
	for range 8 {
		all.Go(func() {
			for _, l := range lists() {
				same(t, "Sum", library(l...), hash.Sum(l...))
				same(t, "Bind", library(bound(l...)), hash.Bind(l...))
			}
		})
	}
	all.Wait()
}
