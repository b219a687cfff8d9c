package keyed_test

import (
	"crypto/hkdf"
	"crypto/hmac"
	"crypto/sha256"
	"encoding/hex"
	"math"
	"math/rand"
	"slices"
	"strings"
	"sync"
	"testing"

	"dovecote/api"
	"dovecote/hash"
	"dovecote/keyed"
)

// digits reads hexadecimal digits.
func digits(s string) string {
	b, err := hex.DecodeString(s)
	if err != nil {
		panic(err)
	}
	return string(b)
}

// library is the tag as Go's own library has it.
func library(key string, l ...string) string {
	h := hmac.New(sha256.New, []byte(key))
	for _, s := range l {
		h.Write([]byte(s))
	}
	return string(h.Sum(nil))
}

// byHand is the tag put together by the chapter's words, of the library's digests.
func byHand(key, text string) string {
	if len(key) > 64 {
		d := sha256.Sum256([]byte(key))
		key = string(d[:])
	}
	key += strings.Repeat("\x00", 64-len(key))
	xored := func(with byte) []byte {
		b := []byte(key)
		for i := range b {
			b[i] ^= with
		}
		return b
	}
	inner := sha256.Sum256(append(xored(54), text...))
	outer := sha256.Sum256(append(xored(92), inner[:]...))
	return string(outer[:])
}

// libraryExpanded is what Go's own library expands, of n from 0 to 8160.
func libraryExpanded(key, info string, n int) string {
	b, err := hkdf.Expand(sha256.New, []byte(key), info, n)
	if err != nil {
		panic(err)
	}
	return string(b)
}

// drawn is a text of so many bytes, the same one in each run.
func drawn(seed int64, many int) string {
	b := make([]byte, many)
	rand.New(rand.NewSource(seed)).Read(b)
	return string(b)
}

// counted has so many bytes, from one on, each one more than that ahead.
func counted(from byte, many int) string {
	b := make([]byte, many)
	for i := range b {
		b[i] = from + byte(i)
	}
	return string(b)
}

// keys have the lengths at which a key is filled up otherwise, or digested, and their neighbours.
func keys() []string {
	l := []string{"", "dovecote", strings.Repeat("\x00", 64), strings.Repeat("\x00", 65), strings.Repeat("\xff", 64)}
	for _, n := range []int{1, 20, 31, 32, 33, 63, 64, 65, 66, 127, 128, 129, 131, 1000} {
		l = append(l, drawn(int64(n), n))
	}
	return l
}

// texts have the lengths at which a digest takes another block, and some between.
func texts() []string {
	var l []string
	for _, n := range []int{0, 1, 2, 31, 32, 33, 54, 55, 56, 57, 63, 64, 65, 119, 120, 128, 500} {
		l = append(l, drawn(int64(1000+n), n))
	}
	return append(l, "\x00", strings.Repeat("\x00", 64), strings.Repeat("\xff", 100))
}

// lengths are those that can be expanded: the edges, and their neighbours.
func lengths() []int {
	return []int{0, 1, 2, 16, 31, 32, 33, 40, 63, 64, 65, 95, 96, 97, 128, 1000, 4096, 8127, 8128, 8129, 8159, 8160}
}

// wrongLengths are such as cannot.
func wrongLengths() []int {
	return []int{-1, -2, -32, -33, -8160, 8161, 8162, 8192, 1 << 16, 1 << 32, 1<<32 + 1, 1<<32 + 32, -1 << 32, math.MaxInt, math.MaxInt - 31, math.MinInt}
}

// same fails unless a call answered this text.
func same(t *testing.T, what, want, got string) {
	t.Helper()
	if got != want {
		t.Errorf("%s: %x; want %x", what, got, want)
	}
}

// refused fails unless a call answered an empty text and ErrRange.
func refused(t *testing.T, what string, n int, got string, e api.Errno) {
	t.Helper()
	if got != "" || e != api.ErrRange {
		t.Errorf("%s of %d bytes: %x, error %d; want an empty text and error %d", what, n, got, e, api.ErrRange)
	}
}

// expanded and derived fail if the call is refused.
func expanded(t *testing.T, key, info string, n int) string {
	t.Helper()
	s, e := keyed.Expand(key, info, n)
	if e != api.OK {
		t.Errorf("Expand to %d bytes: error %d", n, e)
	}
	return s
}

func derived(t *testing.T, secret, label string, n int) string {
	t.Helper()
	s, e := keyed.Derive(secret, label, n)
	if e != api.OK {
		t.Errorf("Derive of %d bytes: error %d", n, e)
	}
	return s
}

// Promise 4.1.

func TestExample(t *testing.T) {
	same(t, "Hex of Tag", "5bdcc146bf60754e6a042426089575c75a003f089d2739839dec58b964ec3843",
		hash.Hex(keyed.Tag("Jefe", "what do ya want ", "for nothing?")))
}

// TestTagVectors has those of RFC 4231; of the fifth it publishes a beginning alone.
func TestTagVectors(t *testing.T) {
	for i, v := range []struct{ key, text, want string }{
		{strings.Repeat("\x0b", 20), "Hi There", "b0344c61d8db38535ca8afceaf0bf12b881dc200c9833da726e9376c2e32cff7"},
		{"Jefe", "what do ya want for nothing?", "5bdcc146bf60754e6a042426089575c75a003f089d2739839dec58b964ec3843"},
		{strings.Repeat("\xaa", 20), strings.Repeat("\xdd", 50), "773ea91e36800e46854db8ebd09181a72959098b3ef8c122d9635514ced565fe"},
		{counted(1, 25), strings.Repeat("\xcd", 50), "82558a389a443c0ea4cc819899f2083a85f0faa3e578f8077a2e3ff46729665b"},
		{strings.Repeat("\x0c", 20), "Test With Truncation", "a3b6167473100ee06e0c796c2955552b"},
		{strings.Repeat("\xaa", 131), "Test Using Larger Than Block-Size Key - Hash Key First", "60e431591ee0b67f0d8a26aacbf5b77f8e0bc6213728c5140546040f0ee37f54"},
		{strings.Repeat("\xaa", 131), "This is a test using a larger than block-size key and a larger than block-size data. The key needs to be hashed before being used by the HMAC algorithm.", "9b09ffa71b942fcb27635fbcd5b0e944bfdc63644f0713938a7f51535c3a35e2"},
	} {
		got := keyed.Tag(v.key, v.text)
		if len(got) != 32 || !strings.HasPrefix(hash.Hex(got), v.want) {
			t.Errorf("test case %d: %s; want %s", i+1, hash.Hex(got), v.want)
		}
	}
}

// TestEveryKeyLength has all lengths of keys up to more than two blocks.
func TestEveryKeyLength(t *testing.T) {
	for n := range 140 {
		for _, key := range []string{drawn(int64(n), n), strings.Repeat("\x00", n), strings.Repeat("\xff", n)} {
			same(t, "Tag", library(key, "a text"), keyed.Tag(key, "a text"))
			same(t, "Tag of none", library(key), keyed.Tag(key))
		}
	}
}

func TestKeysAndTexts(t *testing.T) {
	for _, key := range keys() {
		for _, text := range texts() {
			got := keyed.Tag(key, text)
			same(t, "Tag", library(key, text), got)
			same(t, "Tag by hand", byHand(key, text), got)
			if len(got) != 32 {
				t.Errorf("a tag of %d bytes", len(got))
			}
		}
	}
}

// TestZerosBehindKeys: a key and the same with bytes 0 behind it are one key, as long as neither is digested.
func TestZerosBehindKeys(t *testing.T) {
	for _, key := range []string{"", "k", "dovecote", drawn(1, 31), drawn(2, 62), drawn(3, 63)} {
		want := library(key, "a text")
		for n := len(key); n <= 64; n++ {
			same(t, "Tag", want, keyed.Tag(key+strings.Repeat("\x00", n-len(key)), "a text"))
		}
		longer := key + strings.Repeat("\x00", 65-len(key))
		same(t, "Tag under a longer key", library(longer, "a text"), keyed.Tag(longer, "a text"))
		if keyed.Tag(longer, "a text") == want {
			t.Errorf("a key of 65 bytes: taken for one of %d", len(key))
		}
		if keyed.Tag("\x00"+key+"x", "a text") == keyed.Tag(key+"x", "a text") {
			t.Errorf("a byte 0 ahead of a key of %d bytes does not show", len(key)+1)
		}
	}
}

// TestDigestsOfKeys: a key of more than 64 bytes is the same as its digest, one of 64 is not.
func TestDigestsOfKeys(t *testing.T) {
	for _, n := range []int{65, 66, 128, 131, 1000} {
		key := drawn(int64(n), n)
		same(t, "Tag", keyed.Tag(hash.Sum(key), "a text"), keyed.Tag(key, "a text"))
	}
	for _, n := range []int{0, 1, 63, 64} {
		key := drawn(int64(n), n)
		if keyed.Tag(hash.Sum(key), "a text") == keyed.Tag(key, "a text") {
			t.Errorf("a key of %d bytes was digested", n)
		}
	}
}

func TestEveryBitOfKey(t *testing.T) {
	for _, n := range []int{1, 32, 64, 65} {
		key := drawn(int64(n), n)
		for bit := range 8 * n {
			b := []byte(key)
			b[bit/8] ^= 1 << (bit % 8)
			same(t, "Tag", library(string(b), "a text"), keyed.Tag(string(b), "a text"))
		}
	}
}

func TestNoPiece(t *testing.T) {
	for _, key := range keys() {
		want := library(key, "")
		same(t, "Tag of none", want, keyed.Tag(key))
		same(t, "Tag of nil", want, keyed.Tag(key, []string(nil)...))
		same(t, "Tag of an empty list", want, keyed.Tag(key, []string{}...))
		same(t, "Tag of an empty piece", want, keyed.Tag(key, ""))
		same(t, "Tag of empty pieces", want, keyed.Tag(key, make([]string, 1000)...))
	}
	same(t, "Tag of none under no key", digits("b613679a0814d9ec772f95d778c35fc5ff1697c493715653c6c712144292c5ad"), keyed.Tag(""))
}

func TestSame(t *testing.T) {
	for _, s := range append(texts(), keys()...) {
		if !keyed.Same(s, string([]byte(s))) {
			t.Errorf("%x is not the same as itself", s)
		}
		for _, longer := range []string{s + "\x00", s + "a", "\x00" + s, s + s + "b"} {
			if keyed.Same(s, longer) || keyed.Same(longer, s) {
				t.Errorf("%x and %x are the same", s, longer)
			}
		}
	}
	for _, pair := range [][2]string{{"", "a"}, {"", "\x00"}, {"a", "b"}, {"ab", "ba"}, {"a", "A"}, {"\x00", "\x80"}, {"\xc3\xa4", "a\xcc\x88"}} {
		if keyed.Same(pair[0], pair[1]) || keyed.Same(pair[1], pair[0]) {
			t.Errorf("%x and %x are the same", pair[0], pair[1])
		}
	}
}

// TestSameOfOneByte changes each bit, and then all of each byte, of a tag.
func TestSameOfOneByte(t *testing.T) {
	s := keyed.Tag("key", "a text")
	for i := range len(s) {
		for change := 1; change < 256; change++ {
			b := []byte(s)
			b[i] ^= byte(change)
			if keyed.Same(s, string(b)) || keyed.Same(string(b), s) {
				t.Errorf("byte %d changed by %d: the same", i, change)
			}
		}
	}
}

// TestSameOfTwoBytes: two changes do not make up for each other.
func TestSameOfTwoBytes(t *testing.T) {
	s := drawn(20, 32)
	for i := range len(s) {
		for j := range i {
			b := []byte(s)
			b[i] ^= 0x5a
			b[j] ^= 0x5a
			if keyed.Same(s, string(b)) {
				t.Errorf("bytes %d and %d changed: the same", j, i)
			}
		}
	}
}

func TestSameOfBeginnings(t *testing.T) {
	s := drawn(21, 70)
	for n := range len(s) {
		if keyed.Same(s, s[:n]) || keyed.Same(s[:n], s) || keyed.Same(s, s[len(s)-n:]) {
			t.Errorf("a piece of %d bytes: the same as the whole", n)
		}
	}
}

func TestExtract(t *testing.T) {
	for _, salt := range keys() {
		for _, secret := range texts() {
			got := keyed.Extract(salt, secret)
			same(t, "Extract", library(salt, secret), got)
			same(t, "Extract as Tag", keyed.Tag(salt, secret), got)
			want, err := hkdf.Extract(sha256.New, []byte(secret), []byte(salt))
			if err != nil {
				t.Fatal(err)
			}
			same(t, "Extract as the library's", string(want), got)
		}
	}
	same(t, "Extract without a salt", keyed.Extract(strings.Repeat("\x00", 32), "secret"), keyed.Extract("", "secret"))
	if keyed.Extract("a", "b") == keyed.Extract("b", "a") {
		t.Error("salt and secret can be taken for each other")
	}
}

// Promise 4.2.

// TestDeriveVectors has those of RFC 5869 that are of SHA-256.
func TestDeriveVectors(t *testing.T) {
	for i, v := range []struct {
		secret, salt, info string
		n                  int
		key, want          string
	}{
		{strings.Repeat("\x0b", 22), counted(0, 13), counted(0xf0, 10), 42,
			"077709362c2e32df0ddc3f0dc47bba6390b6c73bb50f9c3122ec844ad7c2b3e5",
			"3cb25f25faacd57a90434f64d0362f2a2d2d0a90cf1a5a4c5db02d56ecc4c5bf34007208d5b887185865"},
		{counted(0, 80), counted(0x60, 80), counted(0xb0, 80), 82,
			"06a6b88c5853361a06104c9ceb35b45cef760014904671014a193f40c15fc244",
			"b11e398dc80327a1c8e7f78c596a49344f012eda2d4efad8a050cc4c19afa97c59045a99cac7827271cb41c65e590e09da3275600c2f09b8367793a9aca3db71cc30c58179ec3e87c14c01d5c1f3434f1d87"},
		{strings.Repeat("\x0b", 22), "", "", 42,
			"19ef24a32c717b167f33a91d6f648bdf96596776afdb6377ac434c1c293ccb04",
			"8da4e775a563c18f715f802a063c5a31b8a11f5c5ee1879ec3454e5f3c738d2d9d201395faa4b61a96c8"},
	} {
		key := keyed.Extract(v.salt, v.secret)
		if hash.Hex(key) != v.key {
			t.Errorf("test case %d: extracted %s; want %s", i+1, hash.Hex(key), v.key)
		}
		if got := hash.Hex(expanded(t, key, v.info, v.n)); got != v.want {
			t.Errorf("test case %d: expanded %s; want %s", i+1, got, v.want)
		}
	}
}

func TestExpand(t *testing.T) {
	for _, key := range keys() {
		for _, info := range []string{"", "info", "\x00", "\x01", drawn(30, 22), drawn(31, 23), drawn(32, 64), drawn(33, 200)} {
			for _, n := range []int{0, 1, 31, 32, 33, 64, 100} {
				same(t, "Expand", libraryExpanded(key, info, n), expanded(t, key, info, n))
			}
		}
	}
	for _, n := range lengths() {
		got := expanded(t, "key", "info", n)
		same(t, "Expand", libraryExpanded("key", "info", n), got)
		if len(got) != n {
			t.Errorf("Expand to %d bytes: %d", n, len(got))
		}
	}
}

// TestExpandByHand makes all tags one by one, by the chapter's words.
func TestExpandByHand(t *testing.T) {
	for _, key := range []string{"", "key", drawn(40, 32), drawn(41, 100)} {
		for _, info := range []string{"", "info", drawn(42, 80)} {
			ahead, all := "", ""
			for i := 1; i <= 255; i++ {
				ahead = byHand(key, ahead+info+string([]byte{byte(i)}))
				all += ahead
			}
			same(t, "Expand", all, expanded(t, key, info, 8160))
		}
	}
}

func TestDerive(t *testing.T) {
	for _, secret := range []string{"", "secret", "\x00", drawn(50, 32), drawn(51, 64), drawn(52, 65), drawn(53, 500)} {
		for _, label := range []string{"", "label", "\x00", "\x01", drawn(54, 100)} {
			for _, n := range []int{0, 1, 31, 32, 33, 64, 100} {
				got := derived(t, secret, label, n)
				same(t, "Derive", libraryExpanded(library("dovecote", secret), label, n), got)
				same(t, "Derive as Expand", expanded(t, keyed.Extract("dovecote", secret), label, n), got)
			}
		}
	}
	for _, n := range lengths() {
		got := derived(t, "secret", "label", n)
		same(t, "Derive", libraryExpanded(library("dovecote", "secret"), "label", n), got)
		if len(got) != n {
			t.Errorf("Derive of %d bytes: %d", n, len(got))
		}
	}
}

// TestLabelsMakeUnlikeKeys: neither the labels, nor secret and label, can be taken for each other.
func TestLabelsMakeUnlikeKeys(t *testing.T) {
	first := map[string][2]string{}
	for _, secret := range []string{"", "a", "b", "ab", "dovecote"} {
		for _, label := range []string{"", "a", "b", "ab", "a\x01", "\x01", "\x00"} {
			k := derived(t, secret, label, 32)
			if o, ok := first[k]; ok {
				t.Errorf("%q for %q, and %q for %q: the same key", secret, label, o[0], o[1])
			}
			first[k] = [2]string{secret, label}
		}
	}
}

func TestLengthsRefused(t *testing.T) {
	for _, n := range wrongLengths() {
		for _, k := range append(keys(), texts()...) {
			s, e := keyed.Expand(k, k, n)
			refused(t, "Expand", n, s, e)
			s, e = keyed.Derive(k, k, n)
			refused(t, "Derive", n, s, e)
		}
	}
}

// Promise 4.3.

// TestWhereTagIsCut cuts one text at each place, and at each two places, empty pieces between.
func TestWhereTagIsCut(t *testing.T) {
	text := drawn(60, 90)
	for _, key := range []string{"", "key", drawn(61, 64), drawn(62, 131)} {
		want := library(key, text)
		for i := range len(text) + 1 {
			same(t, "in two", want, keyed.Tag(key, text[:i], text[i:]))
			same(t, "in two, empty ones around", want, keyed.Tag(key, "", text[:i], "", "", text[i:], ""))
			for j := i; j <= len(text); j++ {
				same(t, "in three", want, keyed.Tag(key, text[:i], text[i:j], text[j:]))
			}
		}
		same(t, "in single bytes", want, keyed.Tag(key, strings.Split(text, "")...))
	}
	many := strings.Split(drawn(63, 100000), "")
	same(t, "many pieces", library("key", many...), keyed.Tag("key", many...))
}

// TestKeyIsNoPiece: what goes from the key over to the text shows.
func TestKeyIsNoPiece(t *testing.T) {
	text := drawn(64, 100)
	first := map[string]int{}
	for i := range len(text) {
		s := keyed.Tag(text[:i], text[i:])
		if j, ok := first[s]; ok {
			t.Errorf("a key of %d bytes and one of %d: the same tag", i, j)
		}
		first[s] = i
	}
}

func TestShorterIsABeginning(t *testing.T) {
	longest, longestDerived := expanded(t, "key", "info", 8160), derived(t, "secret", "label", 8160)
	some := lengths()
	for n := range 200 {
		some = append(some, n)
	}
	for _, n := range some {
		same(t, "Expand", longest[:n], expanded(t, "key", "info", n))
		same(t, "Derive", longestDerived[:n], derived(t, "secret", "label", n))
	}
}

// Rules that hold everywhere.

// TestListsAreLeft: neither the list nor what lies behind its length is written, and the latter is not read.
func TestListsAreLeft(t *testing.T) {
	for many := range 5 {
		whole := []string{"a", "bc", "", "d", "behind"}
		l := whole[:many]
		same(t, "Tag", library("key", slices.Clone(l)...), keyed.Tag("key", l...))
		if !slices.Equal(whole, []string{"a", "bc", "", "d", "behind"}) {
			t.Errorf("the list became %q", whole)
		}
	}
}

// TestCallsDoNotTouch: calls at the same time, and one after the other, tell the same.
func TestCallsDoNotTouch(t *testing.T) {
	var all sync.WaitGroup
	for range 8 {
		all.Go(func() {
			for _, key := range keys() {
				same(t, "Tag", library(key, "a", "text"), keyed.Tag(key, "a", "text"))
				same(t, "Expand", libraryExpanded(key, "info", 100), expanded(t, key, "info", 100))
				same(t, "Derive", libraryExpanded(library("dovecote", key), "label", 100), derived(t, key, "label", 100))
				if !keyed.Same(key, string([]byte(key))) {
					t.Error("not the same")
				}
			}
		})
	}
	all.Wait()
}

// TestLongKeyAndInfo: a key of a megabyte is not digested anew for each of 255 tags.
func TestLongKeyAndInfo(t *testing.T) {
	key, info := drawn(70, 1<<20), drawn(71, 1<<12)
	same(t, "Expand", libraryExpanded(key, info, 8160), expanded(t, key, info, 8160))
	same(t, "Derive", libraryExpanded(library("dovecote", key), info, 8160), derived(t, key, info, 8160))
	same(t, "Tag", library(key, key, info), keyed.Tag(key, key, info))
}
