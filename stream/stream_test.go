package stream_test

import (
	"encoding/binary"
	"encoding/hex"
	"math"
	"math/rand"
	"strings"
	"sync"
	"testing"

	"dovecote/api"
	"dovecote/hash"
	"dovecote/stream"
)

// last is the highest counter.
const last = 1<<32 - 1

// digits reads hexadecimal digits.
func digits(s string) string {
	b, err := hex.DecodeString(s)
	if err != nil {
		panic(err)
	}
	return string(b)
}

// drawn is a text of so many bytes, the same one in each run.
func drawn(seed int64, many int) string {
	b := make([]byte, many)
	rand.New(rand.NewSource(seed)).Read(b)
	return string(b)
}

// counted has so many bytes, from one on, each one more than that ahead.
func counted(from byte, many int) string {
	b := make([]byte, many)
	for i := range b {
		b[i] = from + byte(i)
	}
	return string(b)
}

// zeros has so many bytes 0.
func zeros(many int) string {
	return strings.Repeat("\x00", many)
}

// with is the text with another byte at a place.
func with(s string, at int, b byte) string {
	return s[:at] + string([]byte{b}) + s[at+1:]
}

// byHand is a block put together by the chapter's words, in numbers of 64 bits that are brought below 2^32.
func byHand(key, nonce string, counter int) string {
	text := "expand 32-byte k" + key + string(binary.LittleEndian.AppendUint32(nil, uint32(counter))) + nonce
	var first, now [16]uint64
	for i := range first {
		first[i] = uint64(binary.LittleEndian.Uint32([]byte(text[4*i:])))
	}
	now = first
	step := func(to, from, turned, by int) {
		now[to] = (now[to] + now[from]) % (1 << 32)
		x := now[turned] ^ now[to]
		now[turned] = x<<by%(1<<32) + x>>(32-by)
	}
	for range 10 {
		for _, q := range [][4]int{{0, 4, 8, 12}, {1, 5, 9, 13}, {2, 6, 10, 14}, {3, 7, 11, 15}, {0, 5, 10, 15}, {1, 6, 11, 12}, {2, 7, 8, 13}, {3, 4, 9, 14}} {
			step(q[0], q[1], q[3], 16)
			step(q[2], q[3], q[1], 12)
			step(q[0], q[1], q[3], 8)
			step(q[2], q[3], q[1], 7)
		}
	}
	var b []byte
	for i := range now {
		b = binary.LittleEndian.AppendUint32(b, uint32(now[i]+first[i]))
	}
	return string(b)
}

// streamByHand is n bytes of the stream from a counter on.
func streamByHand(key, nonce string, counter, n int) string {
	var b strings.Builder
	for ; b.Len() < n; counter = (counter + 1) % (1 << 32) {
		b.WriteString(byHand(key, nonce, counter))
	}
	return b.String()[:n]
}

// xored is both texts, byte by byte; they are of one length.
func xored(a, b string) string {
	x := []byte(a)
	for i := range x {
		x[i] ^= b[i]
	}
	return string(x)
}

// counters are the edges, their neighbours, and one for each byte of the word.
func counters() []int {
	return []int{0, 1, 2, 42, 255, 256, 65535, 65536, 1 << 24, 0x01020304, 1<<31 - 1, 1 << 31, last - 1, last}
}

// wrongCounters are such as are refused; some are right ones if only their lowest 32 bits are looked at.
func wrongCounters() []int {
	return []int{-1, -2, -last, -1 << 32, last + 1, last + 2, 1<<32 + 42, 1 << 40, math.MaxInt, math.MinInt}
}

// lengths are those around the ends of blocks.
func lengths() []int {
	return []int{0, 1, 2, 3, 31, 32, 62, 63, 64, 65, 66, 127, 128, 129, 191, 192, 193, 375, 1000, 4096, 8192}
}

// wrongLengths are such as Bytes refuses.
func wrongLengths() []int {
	return []int{-1, -2, -64, -api.MaxBytes, api.MaxBytes + 1, api.MaxBytes + 2, 1 << 32, 1<<32 + 1, -1 << 32, math.MaxInt, math.MinInt}
}

// keys and nonces are right ones.
func keys() []string {
	return []string{zeros(32), strings.Repeat("\xff", 32), counted(0, 32), zeros(31) + "\x01", "\x80" + zeros(31), drawn(1, 32), drawn(2, 32)}
}

func nonces() []string {
	return []string{zeros(12), strings.Repeat("\xff", 12), counted(0, 12), zeros(11) + "\x01", "\x80" + zeros(11), drawn(3, 12), drawn(4, 12)}
}

// wrongKeys and wrongNonces are too short or too long.
func wrongKeys() []string {
	return []string{"", "k", zeros(12), zeros(16), zeros(31), counted(0, 31), zeros(33), counted(0, 33), zeros(64), drawn(5, 1000)}
}

func wrongNonces() []string {
	return []string{"", "n", zeros(8), zeros(11), counted(0, 11), zeros(13), counted(0, 13), zeros(24), zeros(32), drawn(6, 1000)}
}

// same fails unless a call answered this text, and OK.
func same(t *testing.T, what, want, got string, e api.Errno) {
	t.Helper()
	if got != want || e != api.OK {
		t.Errorf("%s: %x, error %d; want %x", what, got, e, want)
	}
}

// refused fails unless a call answered an empty text and this error.
func refused(t *testing.T, what string, want api.Errno, got string, e api.Errno) {
	t.Helper()
	if got != "" || e != want {
		t.Errorf("%s: %d bytes, error %d; want none, and error %d", what, len(got), e, want)
	}
}

// blocked, flown and begun fail if the call is refused.
func blocked(t *testing.T, key, nonce string, counter int) string {
	t.Helper()
	s, e := stream.Block(key, nonce, counter)
	if e != api.OK || len(s) != 64 {
		t.Fatalf("Block of %d: %d bytes, error %d", counter, len(s), e)
	}
	return s
}

func flown(t *testing.T, key, nonce string, counter int, text string) string {
	t.Helper()
	s, e := stream.Xor(key, nonce, counter, text)
	if e != api.OK || len(s) != len(text) {
		t.Fatalf("Xor of %d bytes from %d on: %d bytes, error %d", len(text), counter, len(s), e)
	}
	return s
}

func begun(t *testing.T, key, nonce string, n int) string {
	t.Helper()
	s, e := stream.Bytes(key, nonce, n)
	if e != api.OK || len(s) != n {
		t.Fatalf("Bytes of %d: %d, error %d", n, len(s), e)
	}
	return s
}

// Promise 5.1.

func TestExample(t *testing.T) {
	s, e := stream.Block(counted(0, 32), "\x00\x00\x00\x09\x00\x00\x00\x4a\x00\x00\x00\x00", 1)
	same(t, "Hex of Block", "10f1e7e4d13b5915500fdd1fa32071c4c7d1f4c733c068030422aa9ac3d46c4ed2826446079faa0914c2d705d98b02a2b5129cd1de164eb9cbd083e8a2503c4e", hash.Hex(s), e)
}

// TestBlockVectors has those of RFC 8439, A.1.
func TestBlockVectors(t *testing.T) {
	for i, v := range []struct {
		key, nonce string
		counter    int
		want       string
	}{
		{zeros(32), zeros(12), 0, "76b8e0ada0f13d90405d6ae55386bd28bdd219b8a08ded1aa836efcc8b770dc7da41597c5157488d7724e03fb8d84a376a43b8f41518a11cc387b669b2ee6586"},
		{zeros(32), zeros(12), 1, "9f07e7be5551387a98ba977c732d080dcb0f29a048e3656912c6533e32ee7aed29b721769ce64e43d57133b074d839d531ed1f28510afb45ace10a1f4b794d6f"},
		{zeros(31) + "\x01", zeros(12), 1, "3aeb5224ecf849929b9d828db1ced4dd832025e8018b8160b82284f3c949aa5a8eca00bbb4a73bdad192b5c42f73f2fd4e273644c8b36125a64addeb006c13a0"},
		{"\x00\xff" + zeros(30), zeros(12), 2, "72d54dfbf12ec44b362692df94137f328fea8da73990265ec1bbbea1ae9af0ca13b25aa26cb4a648cb9b9d1be65b2c0924a66c54d545ec1b7374f4872e99f096"},
		{zeros(32), zeros(11) + "\x02", 0, "c2c64d378cd536374ae204b9ef933fcd1a8b2288b3dfa49672ab765b54ee27c78a970e0e955c14f3a88e741b97c286f75f8fc299e8148362fa198a39531bed6d"},
	} {
		s, e := stream.Block(v.key, v.nonce, v.counter)
		if hash.Hex(s) != v.want || e != api.OK {
			t.Errorf("test vector %d: %s, error %d; want %s", i+1, hash.Hex(s), e, v.want)
		}
	}
}

func TestBlock(t *testing.T) {
	for _, key := range keys() {
		for _, nonce := range nonces() {
			for _, counter := range counters() {
				s, e := stream.Block(key, nonce, counter)
				same(t, "Block", byHand(key, nonce, counter), s, e)
			}
		}
	}
}

// TestEveryBit changes each bit of key, nonce and counter: no two blocks are the same.
func TestEveryBit(t *testing.T) {
	key, nonce, counter := drawn(10, 32), drawn(11, 12), 0x5a3c6996
	first := map[string]string{}
	look := func(what, key, nonce string, counter int) {
		s, e := stream.Block(key, nonce, counter)
		same(t, what, byHand(key, nonce, counter), s, e)
		if o, ok := first[s]; ok {
			t.Errorf("%s, and %s: the same block", what, o)
		}
		first[s] = what
	}
	look("nothing changed", key, nonce, counter)
	for i := range 32 * 8 {
		look("a bit of the key", with(key, i/8, key[i/8]^1<<(i%8)), nonce, counter)
	}
	for i := range 12 * 8 {
		look("a bit of the nonce", key, with(nonce, i/8, nonce[i/8]^1<<(i%8)), counter)
	}
	for i := range 32 {
		look("a bit of the counter", key, nonce, counter^1<<i)
	}
}

// TestFormRefused: key and nonce are looked at ahead of all else, by all calls.
func TestFormRefused(t *testing.T) {
	look := func(key, nonce string) {
		for _, counter := range append(counters(), wrongCounters()...) {
			s, e := stream.Block(key, nonce, counter)
			refused(t, "Block", api.ErrForm, s, e)
			for _, text := range []string{"", "text", zeros(api.MaxBytes + 1)} {
				s, e = stream.Xor(key, nonce, counter, text)
				refused(t, "Xor", api.ErrForm, s, e)
			}
		}
		for _, n := range append(wrongLengths(), 0, 1, 64, api.MaxBytes) {
			s, e := stream.Bytes(key, nonce, n)
			refused(t, "Bytes", api.ErrForm, s, e)
		}
	}
	for _, key := range wrongKeys() {
		look(key, nonces()[2])
		for _, nonce := range wrongNonces() {
			look(key, nonce)
		}
	}
	for _, nonce := range wrongNonces() {
		look(keys()[2], nonce)
	}
	look(zeros(12), zeros(32))
	look(zeros(31), zeros(13))
}

// TestEveryFormLength: of all lengths, one alone is a key's, and one a nonce's.
func TestEveryFormLength(t *testing.T) {
	for n := range 140 {
		_, byKey := stream.Block(counted(0, n), zeros(12), 0)
		if (byKey == api.OK) != (n == 32) {
			t.Errorf("a key of %d bytes: error %d", n, byKey)
		}
		_, byNonce := stream.Block(zeros(32), counted(0, n), 0)
		if (byNonce == api.OK) != (n == 12) {
			t.Errorf("a nonce of %d bytes: error %d", n, byNonce)
		}
	}
}

// TestCountersRefused: also where the text is too long.
func TestCountersRefused(t *testing.T) {
	for _, counter := range wrongCounters() {
		for _, key := range keys() {
			s, e := stream.Block(key, zeros(12), counter)
			refused(t, "Block", api.ErrRange, s, e)
			for _, text := range []string{"", "text", zeros(64), zeros(api.MaxBytes), zeros(api.MaxBytes + 1)} {
				s, e = stream.Xor(key, zeros(12), counter, text)
				refused(t, "Xor", api.ErrRange, s, e)
			}
		}
	}
}

// Promise 5.2.

// TestXorVectors has those of RFC 8439, 2.4.2 and A.2.
func TestXorVectors(t *testing.T) {
	for i, v := range []struct {
		key, nonce string
		counter    int
		text, want string
	}{
		{counted(0, 32), digits("000000000000004a00000000"), 1,
			"Ladies and Gentlemen of the class of '99: If I could offer you only one tip for the future, sunscreen would be it.",
			"6e2e359a2568f98041ba0728dd0d6981e97e7aec1d4360c20a27afccfd9fae0bf91b65c5524733ab8f593dabcd62b3571639d624e65152ab8f530c359f0861d807ca0dbf500d6a6156a38e088a22b65e52bc514d16ccf806818ce91ab77937365af90bbf74a35be6b40b8eedf2785e42874d"},
		{zeros(32), zeros(12), 0, zeros(64),
			"76b8e0ada0f13d90405d6ae55386bd28bdd219b8a08ded1aa836efcc8b770dc7da41597c5157488d7724e03fb8d84a376a43b8f41518a11cc387b669b2ee6586"},
		{zeros(31) + "\x01", zeros(11) + "\x02", 1,
			"Any submission to the IETF intended by the Contributor for publication as all or part of an IETF Internet-Draft or RFC and any statement made within the context of an IETF activity is considered an \"IETF Contribution\". Such statements include oral statements in IETF sessions, as well as written and electronic communications made at any time or place, which are addressed to",
			"a3fbf07df3fa2fde4f376ca23e82737041605d9f4f4f57bd8cff2c1d4b7955ec2a97948bd3722915c8f3d337f7d370050e9e96d647b7c39f56e031ca5eb6250d4042e02785ececfa4b4bb5e8ead0440e20b6e8db09d881a7c6132f420e52795042bdfa7773d8a9051447b3291ce1411c680465552aa6c405b7764d5e87bea85ad00f8449ed8f72d0d662ab052691ca66424bc86d2df80ea41f43abf937d3259dc4b2d0dfb48a6c9139ddd7f76966e928e635553ba76c5c879d7b35d49eb2e62b0871cdac638939e25e8a1e0ef9d5280fa8ca328b351c3c765989cbcf3daa8b6ccc3aaf9f3979c92b3720fc88dc95ed84a1be059c6499b9fda236e7e818b04b0bc39c1e876b193bfe5569753f88128cc08aaa9b63d1a16f80ef2554d7189c411f5869ca52c5b83fa36ff216b9c1d30062bebcfd2dc5bce0911934fda79a86f6e698ced759c3ff9b6477338f3da4f9cd8514ea9982ccafb341b2384dd902f3d1ab7ac61dd29c6f21ba5b862f3730e37cfdc4fd806c22f221"},
		{digits("1c9240a5eb55d38af333888604f6b5f0473917c1402b80099dca5cbc207075c0"), zeros(11) + "\x02", 42,
			"'Twas brillig, and the slithy toves\nDid gyre and gimble in the wabe:\nAll mimsy were the borogoves,\nAnd the mome raths outgrabe.",
			"62e6347f95ed87a45ffae7426f27a1df5fb69110044c0d73118effa95b01e5cf166d3df2d721caf9b21e5fb14c616871fd84c54f9d65b283196c7fe4f60553ebf39c6402c42234e32a356b3e764312a61a5532055716ead6962568f87d3f3f7704c6a8d1bcd1bf4d50d6154b6da731b187b58dfd728afa36757a797ac188d1"},
	} {
		s, e := stream.Xor(v.key, v.nonce, v.counter, v.text)
		if hash.Hex(s) != v.want || e != api.OK {
			t.Errorf("test vector %d: %s, error %d; want %s", i, hash.Hex(s), e, v.want)
		}
	}
}

// TestBytesVectors has the keys of RFC 8439, 2.6.2 and A.4: the first half of the block of the counter 0.
func TestBytesVectors(t *testing.T) {
	for i, v := range []struct{ key, nonce, want string }{
		{counted(0x80, 32), zeros(4) + counted(0, 8), "8ad5a08b905f81cc815040274ab29471a833b637e3fd0da508dbb8e2fdd1a646"},
		{zeros(32), zeros(12), "76b8e0ada0f13d90405d6ae55386bd28bdd219b8a08ded1aa836efcc8b770dc7"},
		{zeros(31) + "\x01", zeros(11) + "\x02", "ecfa254f845f647473d3cb140da9e87606cb33066c447b87bc2666dde3fbb739"},
		{digits("1c9240a5eb55d38af333888604f6b5f0473917c1402b80099dca5cbc207075c0"), zeros(11) + "\x02", "965e3bc6f9ec7ed9560808f4d229f94b137ff275ca9b3fcbdd59deaad23310ae"},
	} {
		s, e := stream.Bytes(v.key, v.nonce, 32)
		if hash.Hex(s) != v.want || e != api.OK {
			t.Errorf("test vector %d: %s, error %d; want %s", i, hash.Hex(s), e, v.want)
		}
	}
}

func TestXor(t *testing.T) {
	for _, key := range keys()[2:] {
		for _, nonce := range nonces()[2:] {
			for _, counter := range counters() {
				long := streamByHand(key, nonce, counter, 200)
				for _, n := range []int{0, 1, 63, 64, 65, 128, 200} {
					text := drawn(int64(n), n)
					s, e := stream.Xor(key, nonce, counter, text)
					same(t, "Xor", xored(text, long[:n]), s, e)
				}
			}
		}
	}
}

func TestXorLengths(t *testing.T) {
	key, nonce := drawn(20, 32), drawn(21, 12)
	long := streamByHand(key, nonce, 7, api.MaxBytes)
	for _, n := range append(lengths(), api.MaxBytes-65, api.MaxBytes-64, api.MaxBytes-63, api.MaxBytes-1, api.MaxBytes) {
		for _, text := range []string{zeros(n), strings.Repeat("\xff", n), drawn(22, n)} {
			s, e := stream.Xor(key, nonce, 7, text)
			same(t, "Xor", xored(text, long[:n]), s, e)
		}
	}
}

func TestLongTextsRefused(t *testing.T) {
	for _, n := range []int{api.MaxBytes + 1, api.MaxBytes + 64, 2 * api.MaxBytes, 1 << 20} {
		for _, counter := range counters() {
			for _, text := range []string{zeros(n), drawn(23, n)} {
				s, e := stream.Xor(drawn(24, 32), drawn(25, 12), counter, text)
				refused(t, "Xor", api.ErrLong, s, e)
			}
		}
	}
}

// TestRound: behind the counter 2^32 - 1 comes 0, and neither the nonce nor another word takes what is carried over.
func TestRound(t *testing.T) {
	for _, key := range keys() {
		for _, nonce := range nonces() {
			s := flown(t, key, nonce, last, zeros(192))
			same(t, "the last block", blocked(t, key, nonce, last), s[:64], api.OK)
			same(t, "the block behind it", blocked(t, key, nonce, 0), s[64:128], api.OK)
			same(t, "the next one", blocked(t, key, nonce, 1), s[128:], api.OK)
			same(t, "by hand", streamByHand(key, nonce, last, 192), s, api.OK)
			same(t, "from one ahead", blocked(t, key, nonce, 0), flown(t, key, nonce, last-1, zeros(192))[128:], api.OK)
			if s[64:128] == s[:64] {
				t.Error("the last block comes twice")
			}
		}
	}
	key, nonce := drawn(26, 32), drawn(27, 12)
	for ahead := range 5 {
		text := drawn(28, api.MaxBytes)
		s, e := stream.Xor(key, nonce, last-ahead, text)
		same(t, "a long text", xored(text, streamByHand(key, nonce, last-ahead, api.MaxBytes)), s, e)
	}
}

func TestBytes(t *testing.T) {
	for _, key := range keys() {
		for _, nonce := range nonces() {
			long := streamByHand(key, nonce, 0, 300)
			for _, n := range []int{0, 1, 63, 64, 65, 128, 240, 300} {
				s, e := stream.Bytes(key, nonce, n)
				same(t, "Bytes", long[:n], s, e)
			}
		}
	}
	key, nonce := drawn(30, 32), drawn(31, 12)
	long := streamByHand(key, nonce, 0, api.MaxBytes)
	for _, n := range append(lengths(), api.MaxBytes-64, api.MaxBytes-63, api.MaxBytes-1, api.MaxBytes) {
		s, e := stream.Bytes(key, nonce, n)
		same(t, "Bytes", long[:n], s, e)
	}
}

func TestLengthsRefused(t *testing.T) {
	for _, n := range wrongLengths() {
		for _, key := range keys() {
			for _, nonce := range nonces() {
				s, e := stream.Bytes(key, nonce, n)
				refused(t, "Bytes", api.ErrRange, s, e)
			}
		}
	}
}

// Promise 5.3.

func TestXorTwice(t *testing.T) {
	for _, counter := range counters() {
		for _, n := range append(lengths(), api.MaxBytes) {
			key, nonce, text := drawn(40, 32), drawn(41, 12), drawn(int64(n), n)
			s := flown(t, key, nonce, counter, text)
			if n >= 16 && s == text {
				t.Errorf("Xor of %d bytes changes nothing", n)
			}
			twice, e := stream.Xor(key, nonce, counter, s)
			same(t, "Xor twice", text, twice, e)
		}
	}
}

// TestLaterCounters cuts one text at all ends of blocks: what comes behind goes on from a later counter.
func TestLaterCounters(t *testing.T) {
	key, nonce, text := drawn(42, 32), drawn(43, 12), drawn(44, 64*12+17)
	for _, counter := range append(counters(), last-5, last-11) {
		whole := flown(t, key, nonce, counter, text)
		for i := 0; 64*i <= len(text); i++ {
			later := (counter + i) % (1 << 32)
			same(t, "the rest", whole[64*i:], flown(t, key, nonce, later, text[64*i:]), api.OK)
			same(t, "what is ahead", whole[:64*i], flown(t, key, nonce, counter, text[:64*i]), api.OK)
		}
	}
}

// TestBlocksOfAStream: Xor of bytes 0, and Bytes, are the blocks of Block, one behind the other.
func TestBlocksOfAStream(t *testing.T) {
	key, nonce := drawn(45, 32), drawn(46, 12)
	s := begun(t, key, nonce, api.MaxBytes)
	same(t, "Xor of bytes 0", s, flown(t, key, nonce, 0, zeros(api.MaxBytes)), api.OK)
	for i := range api.MaxBytes / 64 {
		same(t, "a block", blocked(t, key, nonce, i), s[64*i:64*(i+1)], api.OK)
	}
}

func TestShorterIsABeginning(t *testing.T) {
	key, nonce, text := drawn(47, 32), drawn(48, 12), drawn(49, 300)
	long, longest := flown(t, key, nonce, last-1, text), begun(t, key, nonce, 300)
	for n := range 301 {
		same(t, "Xor", long[:n], flown(t, key, nonce, last-1, text[:n]), api.OK)
		same(t, "Bytes", longest[:n], begun(t, key, nonce, n), api.OK)
	}
}

// Rules that hold everywhere.

// TestCallsDoNotTouch: calls at the same time, and one after the other, tell the same.
func TestCallsDoNotTouch(t *testing.T) {
	var all sync.WaitGroup
	for range 8 {
		all.Go(func() {
			for i, key := range keys() {
				nonce, text := nonces()[i], drawn(50, 200)
				for range 2 {
					s, e := stream.Block(key, nonce, last)
					same(t, "Block", byHand(key, nonce, last), s, e)
					s, e = stream.Xor(key, nonce, last, text)
					same(t, "Xor", xored(text, streamByHand(key, nonce, last, 200)), s, e)
					s, e = stream.Bytes(key, nonce, 200)
					same(t, "Bytes", streamByHand(key, nonce, 0, 200), s, e)
				}
			}
		})
	}
	all.Wait()
}
