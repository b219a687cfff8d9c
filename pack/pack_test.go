package pack_test

import (
	"encoding/hex"
	"fmt"
	"math/rand"
	"slices"
	"strings"
	"sync"
	"testing"

	"dovecote/api"
	"dovecote/curve"
	"dovecote/hash"
	"dovecote/head"
	"dovecote/keyed"
	"dovecote/pack"
	"dovecote/stream"
	"dovecote/wide"
)

const id = "an id of 16 byte"

// drawn is a text of so many bytes, the same one in each run.
func drawn(seed int64, many int) string {
	b := make([]byte, many)
	rand.New(rand.NewSource(seed)).Read(b)
	return string(b)
}

// counted has so many bytes, from one on, each one more than that ahead.
func counted(from byte, many int) string {
	b := make([]byte, many)
	for i := range b {
		b[i] = from + byte(i)
	}
	return string(b)
}

// zeros has so many bytes 0.
func zeros(many int) string {
	return strings.Repeat("\x00", many)
}

// digits is the text that these hexadecimal digits tell.
func digits(s string) string {
	b, err := hex.DecodeString(s)
	if err != nil {
		panic(err)
	}
	return string(b)
}

// turned is the text with the byte at a place xor another.
func turned(s string, at int, by byte) string {
	return s[:at] + string([]byte{s[at] ^ by}) + s[at+1:]
}

// on, home, loop and drop are commands of each kind.
func on(node, delay int) api.Hop { return api.Hop{Kind: api.HOn, Node: node, Delay: delay} }

func home(user, delay int, id string) api.Hop {
	return api.Hop{Kind: api.HHome, User: user, Delay: delay, Id: id}
}

func loop(id string) api.Hop { return api.Hop{Kind: api.HLoop, Id: id} }

func drop() api.Hop { return api.Hop{Kind: api.HDrop} }

// onward is so many commands that go on, of differing nodes and delays, the edges of both among them.
func onward(many int) []api.Hop {
	l := []api.Hop{on(3, 258), on(0, 0), on(31, 4096), on(7, 1), on(12, 255), on(1, 2)}
	return slices.Clone(l[:many])
}

// ends are commands of each kind that a path can end with.
func ends() []api.Hop {
	return []api.Hop{home(63, 4096, id), loop(strings.Repeat("\xff", 16)), drop()}
}

// private is the key of the hop of that number.
func private(i int) string { return counted(byte(32*i), 32) }

// points are those of the first hops.
func points(many int) []string {
	var l []string
	for i := range many {
		p, _ := curve.Public(private(i))
		l = append(l, p)
	}
	return l
}

func seed() string { return counted(201, 32) }

// texts have several lengths, the edges among them, and bytes that a wrapped text has beside it.
func texts() []string {
	return []string{"", "\x00", "hi", drawn(1, 33), zeros(100), drawn(2, 221), counted(9, 222), zeros(222), strings.Repeat("\xff", 222)}
}

// longTexts are those that a packet has no room for.
func longTexts() []string {
	return []string{zeros(223), drawn(3, 223), drawn(4, 224), drawn(5, 256), zeros(257), drawn(6, 504), zeros(api.MaxBytes), drawn(7, api.MaxBytes+222)}
}

// plain is chapter 6's block of a text, ahead of its being shut.
func plain(text string) string {
	return zeros(32) + string([]byte{byte(len(text) / 256), byte(len(text) % 256)}) + text + zeros(222-len(text))
}

// shut is chapter 6's, of what it does not refuse.
func shut(key, block string) string {
	s, e := wide.Shut(key, block)
	if e != api.OK {
		panic(e)
	}
	return s
}

// covered is a block, shut under the body keys of these hops, the last of them first.
func covered(block string, keys ...api.Keys) string {
	for i := len(keys) - 1; i >= 0; i-- {
		block = shut(keys[i].Body, block)
	}
	return block
}

// byHand is what each hop is handed of a packet by the chapter's words, and the hops' keys: the header is chapter 8's, the payload that of the blocks which this hop and those behind it open.
func byHand(t *testing.T, text string, path ...api.Hop) ([]string, []api.Keys) {
	t.Helper()
	h, keys, e := head.Make(seed(), points(len(path)), path...)
	var l []string
	for i := range path {
		if e != api.OK || len(h) != 248 {
			t.Fatalf("the header of the hop %d of %d: error %d", i, len(path), e)
		}
		l = append(l, h+covered(plain(text), keys[i:]...))
		_, h, _, e = head.Peel(private(i), h)
	}
	return l, keys
}

// made fails if Make refuses these.
func made(t *testing.T, seed string, points []string, text string, path ...api.Hop) string {
	t.Helper()
	p, e := pack.Make(seed, points, text, path...)
	if e != api.OK || len(p) != 504 {
		t.Fatalf("Make of %d hops and %d bytes: %d bytes, error %d", len(path), len(text), len(p), e)
	}
	return p
}

// notMade fails unless Make answers this error, and nothing beside it.
func notMade(t *testing.T, what string, want api.Errno, seed string, points []string, text string, path ...api.Hop) {
	t.Helper()
	p, e := pack.Make(seed, points, text, path...)
	if e != want || p != "" {
		t.Errorf("%s: Make: %d bytes, error %d; want error %d alone", what, len(p), e, want)
	}
}

// peeled fails unless Peel answers just this.
func peeled(t *testing.T, what, private, packet string, want api.Peeled) {
	t.Helper()
	x, e := pack.Peel(private, packet)
	if e != api.OK || x != want {
		t.Errorf("%s: Peel: %+v, error %d; want %+v", what, x, e, want)
	}
}

// notPeeled fails unless Peel answers this error, and nothing beside it.
func notPeeled(t *testing.T, what string, want api.Errno, private, packet string) {
	t.Helper()
	x, e := pack.Peel(private, packet)
	if e != want || x != (api.Peeled{}) {
		t.Errorf("%s: Peel: %+v, error %d; want error %d alone", what, x, e, want)
	}
}

// forged is the header of 248 bytes for the hop of that number, of a list that begins with these 24 bytes, with its right mac; and the keys. Make need not make it.
func forged(hop int, command string) (string, api.Keys) {
	point, _ := curve.Public(seed())
	secret, _ := curve.Times(seed(), points(hop + 1)[hop])
	return sealed(point, secret, command)
}

// sealed is the header that has this point, under the keys of a secret.
func sealed(point, secret, command string) (string, api.Keys) {
	k, _ := head.Of(secret)
	list, _ := stream.Xor(k.Flow, zeros(12), 0, command+drawn(8, 176))
	return point + keyed.Tag(k.Mac, list)[:16] + list, k
}

// Promise 9.1.

func TestRoom(t *testing.T) {
	if pack.Room() != 222 {
		t.Errorf("Room: %d; want 222", pack.Room())
	}
}

// TestVectors has packets that another program made, out of HMAC of its library and an X25519, a ChaCha20 and wide blocks of its own.
func TestVectors(t *testing.T) {
	p := made(t, seed(), points(2), "hi", on(3, 258), home(63, 4096, id))
	if want := "4c29f4996985e80d247e80b70303824592ff9fbad74904ea7c3d2bda24e51c12ab317c508d00b98187c91775d8b187fffeae25964992d1ef8c21a5af7c32dcc3e0547b492374583e3cedada6a10de4695cbb6e5fb10bb466a891104247e552984eca3af838e81b66643f085509282c62f640e05ca32c60ac7ef269290663a3106ae442d9bcf4decc7b7f08c3d3fd6d53ad655bec4117b394d1b8cab97d3a455c0fe57be731213d727fb46355f16279ca7f73f043a2125ae7df4903c4eb17a32d4348dea999dbe24bb2a5c091f36311e7f2f01559a830256c52456baae1b3f10abcff18d8f4bcf18b437733d54edb79f114e7639562b05108649dcd0d6396780315996ee38ea102362ee23ae3a35efdec1de5a331e9e234ebbd4098ce5afd286d6ad530c1e9818ab1fcd7471d8ae26a4bf33470ad7e5ab38073c3b594a9dc2fd784797a89eb436bb18c83cc52efd7b0c69705a5697876322bd32bce2253af79f65ae1ea5fe7f2fb1fcd99a04b4f415dfafe53b32b2640cf4fdffd4b67a8d37dde5d498943fe8088ad731bec9cc675a9291b2ad8860124aec2fc079e79bfef80fc68a669dd329c4d86bb9b06bf5e142ea2a76b098fd5dac163e26d8f61ab56fc6e4bee889829da544038f063b11f4d1b33317b4e604f324700cfbd4a080db19e050d53d5fc8d16e7c17f2fe07a1fcdc400b07b25d3a24250ed"; hash.Hex(p) != want {
		t.Errorf("two hops: %x; want %s", p, want)
	}
	first, e := pack.Peel(private(0), p)
	if first.Tag != digits("93ba4ccb6b047e80f684f4094f198699") || e != api.OK {
		t.Errorf("the first hop: %+v, error %d", first, e)
	}
	peeled(t, "the second hop", private(1), first.Next, api.Peeled{Hop: home(63, 4096, id), Tag: digits("214961776c69433a354a19d132431c76"), Text: "hi"})
	for _, v := range []struct {
		text, digest string
		path         []api.Hop
	}{
		{"", "e78986ff647228c1564b3b400bc531c83a0b1de5e75db1e2ad5be13105cb6288", []api.Hop{drop()}},
		{counted(7, 221), "bd2679f2ab92769d6767f3b9238b8415bb89deba52addb8868949dbd8b5068a1", append(onward(2), loop(id))},
		{counted(9, 222), "285748f66250a700abfef38d8afc257c88d7c4797211024624b68524d786e2e9", append(onward(4), home(0, 0, id))},
	} {
		p := made(t, seed(), points(len(v.path)), v.text, v.path...)
		if got := hash.Hex(hash.Sum(p)); got != v.digest {
			t.Errorf("%d hops: the digest %s; want %s", len(v.path), got, v.digest)
		}
	}
}

// TestMakeByHand has paths of each length that end in each way, with each text.
func TestMakeByHand(t *testing.T) {
	for n := 1; n <= 5; n++ {
		for i, end := range ends() {
			path := append(onward(n-1), end)
			h, keys, _ := head.Make(seed(), points(n), path...)
			for j, text := range texts() {
				if n > 2 && j%len(ends()) != i {
					continue
				}
				if p := made(t, seed(), points(n), text, path...); p != h+covered(plain(text), keys...) {
					t.Errorf("%d hops, %+v, a text of %d bytes: another packet", n, end, len(text))
				}
			}
		}
	}
}

// TestPayloadHangsOnLayers: no hop's layer is left out, and none is another's.
func TestPayloadHangsOnLayers(t *testing.T) {
	p := made(t, seed(), points(3), "hi", append(onward(2), drop())...)
	_, keys, _ := head.Make(seed(), points(3), append(onward(2), drop())...)
	for _, order := range [][]int{{}, {0}, {1}, {2}, {0, 1}, {0, 2}, {1, 2}, {2, 1, 0}, {1, 0, 2}, {0, 2, 1}, {0, 1, 2, 2}} {
		var l []api.Keys
		for _, i := range order {
			l = append(l, keys[i])
		}
		if p[248:] == covered(plain("hi"), l...) {
			t.Errorf("shut under the keys %v", order)
		}
	}
}

// TestLongTexts: what has no room is refused on each path, and what just has it is not.
func TestLongTexts(t *testing.T) {
	for n := 1; n <= 5; n++ {
		path := append(onward(n-1), loop(id))
		for _, text := range longTexts() {
			notMade(t, fmt.Sprintf("%d bytes, %d hops", len(text), n), api.ErrLong, seed(), points(n), text, path...)
		}
		for _, text := range []string{longTexts()[1][:221], longTexts()[1][:222]} {
			made(t, seed(), points(n), text, path...)
		}
	}
}

// refused is whatever chapter 8's Make refuses: Make tells the same, be the text right or too long.
func refused(t *testing.T, what string, seed string, points []string, path ...api.Hop) {
	t.Helper()
	_, _, want := head.Make(seed, points, path...)
	if want == api.OK {
		t.Fatalf("%s: chapter 8 does not refuse it", what)
	}
	for _, text := range []string{"", "hi", zeros(222), zeros(223), drawn(9, 1000)} {
		notMade(t, fmt.Sprintf("%s, %d bytes", what, len(text)), want, seed, points, text, path...)
	}
}

func TestPathsThatMayNotBe(t *testing.T) {
	for _, n := range []int{0, 6, 7, 40, 300} {
		notMade(t, fmt.Sprintf("%d hops", n), api.ErrShape, seed(), slices.Repeat(points(1), n), "hi", append(slices.Repeat(onward(1), max(n-1, 0)), drop())[:n]...)
	}
	notMade(t, "no hops, no points", api.ErrShape, seed(), nil, "")
	notMade(t, "no hops, a point", api.ErrShape, seed(), points(1), "")
	made(t, seed(), points(5), "hi", append(onward(4), drop())...)
	for n := 1; n <= 5; n++ {
		refused(t, "the last goes on", seed(), points(n), onward(n)...)
		for at := range n {
			for _, h := range []api.Hop{{}, {Kind: 5}, on(32, 0), on(0, 4097), on(-1, 0), home(64, 0, id), home(0, 0, id[:15]), loop(""), {Kind: api.HDrop, Id: id}} {
				path := append(onward(n-1), drop())
				path[at] = h
				refused(t, fmt.Sprintf("%+v at %d of %d", h, at, n), seed(), points(n), path...)
			}
			if at < n-1 {
				path := append(onward(n-1), drop())
				path[at] = drop()
				refused(t, fmt.Sprintf("one that ends at %d of %d", at, n), seed(), points(n), path...)
			}
		}
	}
}

func TestSeedsAndPoints(t *testing.T) {
	for _, n := range []int{1, 3, 5} {
		path := append(onward(n-1), home(1, 2, id))
		for many := range 8 {
			if many != n {
				refused(t, fmt.Sprintf("%d points of %d", many, n), seed(), points(many), path...)
			}
		}
		for _, s := range []string{"", "s", seed()[:31], seed() + "\x00", zeros(64), zeros(api.MaxBytes)} {
			refused(t, "a seed of another length", s, points(n), path...)
			for at := range n {
				l := points(n)
				l[at] = s
				refused(t, "a point of another length", seed(), l, path...)
			}
		}
		for at := range n {
			for _, w := range []string{zeros(32), "\x01" + zeros(31), "\xec" + strings.Repeat("\xff", 30) + "\x7f"} {
				l := points(n)
				l[at] = w
				refused(t, "a weak point", seed(), l, path...)
			}
		}
	}
}

// TestMakeSeveralWrong has all mixtures of what can be wrong: what is named first is told.
func TestMakeSeveralWrong(t *testing.T) {
	for mix := 1; mix < 128; mix++ {
		path, l, s, text := append(onward(2), drop()), points(3), seed(), "hi"
		want := api.OK
		for i, wrong := range []struct {
			e  api.Errno
			do func()
		}{
			{api.ErrRoute, func() { path[1] = on(32, 0) }},
			{api.ErrShape, func() { path[2] = on(1, 1) }},
			{api.ErrShape, func() { l = append(l, l[0]) }},
			{api.ErrForm, func() { s = s[:31] }},
			{api.ErrForm, func() { l[2] += "\x00" }},
			{api.ErrWeak, func() { l[0] = zeros(32) }},
			{api.ErrLong, func() { text = zeros(223) }},
		} {
			if mix>>i&1 == 0 {
				continue
			}
			wrong.do()
			if want == api.OK {
				want = wrong.e
			}
		}
		notMade(t, fmt.Sprintf("the mixture %b", mix), want, s, l, text, path...)
	}
}

// Promise 9.2.

// TestExample is the chapter's.
func TestExample(t *testing.T) {
	p := made(t, seed(), points(2), "hi", on(1, 2), drop())
	x, e := pack.Peel(private(0), p)
	if x.Hop != on(1, 2) || x.Text != "" || e != api.OK {
		t.Errorf("by the first: %+v, error %d", x, e)
	}
	y, e := pack.Peel(private(1), x.Next)
	if y.Hop != drop() || y.Text != "hi" || y.Next != "" || e != api.OK {
		t.Errorf("by the second: %+v, error %d", y, e)
	}
}

// TestPeelByHand holds each hop of a packet against what it has by the chapter's words.
func TestPeelByHand(t *testing.T) {
	for n := 1; n <= 5; n++ {
		for j, text := range texts() {
			path := append(onward(n-1), ends()[j%len(ends())])
			l, keys := byHand(t, text, path...)
			for i := range n {
				want := api.Peeled{Hop: path[i], Tag: keys[i].Tag}
				if i < n-1 {
					want.Next = l[i+1]
				} else {
					want.Text = text
				}
				peeled(t, fmt.Sprintf("the hop %d of %d, a text of %d bytes", i, n, len(text)), private(i), l[i], want)
			}
		}
	}
}

// TestOnWithAnyPayload: a hop that sends on opens whatever stands there; no text is asked of it.
func TestOnWithAnyPayload(t *testing.T) {
	h, keys, _ := head.Make(seed(), points(2), on(5, 6), drop())
	_, next, _, _ := head.Peel(private(0), h)
	for _, b := range []string{zeros(256), strings.Repeat("\xff", 256), drawn(11, 256), plain("hi"), shut(keys[0].Body, zeros(256)), shut(keys[0].Body, plain("hi"))} {
		opened, _ := wide.Open(keys[0].Body, b)
		peeled(t, fmt.Sprintf("the payload %x", b), private(0), h+b, api.Peeled{Hop: on(5, 6), Next: next + opened, Tag: keys[0].Tag})
	}
}

// TestNoWrappedText has payloads at the last hop that are opened to what is no wrapped text, and to what just is.
func TestNoWrappedText(t *testing.T) {
	for _, end := range ends() {
		h, keys, _ := head.Make(seed(), points(1), end)
		k, none := keys[0], []string{}
		for at := range 32 {
			none = append(none, turned(plain("hi"), at, 1), turned(plain(""), at, 0x80))
		}
		for _, n := range []int{223, 224, 255, 256, 478, 256 * 255, 1<<16 - 1} {
			none = append(none, zeros(32)+string([]byte{byte(n >> 8), byte(n)})+zeros(222))
		}
		for at := 34; at < 256; at++ {
			none = append(none, turned(plain(""), at, 1))
			if at > 35 {
				none = append(none, turned(plain("hi"), at, 0xff))
			}
		}
		none = append(none, turned(plain(zeros(222)), 33, 1), turned(plain(zeros(221)), 255, 1), zeros(255)+"\x01", strings.Repeat("\xff", 256))
		for _, b := range none {
			notPeeled(t, fmt.Sprintf("%+v, %x", end, b), api.ErrBody, private(0), h+shut(k.Body, b))
		}
		for _, text := range append(texts(), "ho") {
			peeled(t, "a wrapped text", private(0), h+shut(k.Body, plain(text)), api.Peeled{Hop: end, Tag: k.Tag, Text: text})
		}
		for _, b := range []string{plain("hi"), zeros(256), drawn(12, 256), shut(k.Mac, plain("hi")), shut(k.Flow, plain("hi")), covered(plain("hi"), k, k)} {
			notPeeled(t, "not shut under the body key", api.ErrBody, private(0), h+b)
		}
	}
}

func TestPacketsOfOtherLengths(t *testing.T) {
	for n, p := range []string{made(t, seed(), points(1), "hi", drop()), made(t, seed(), points(2), "hi", on(1, 2), drop())} {
		if _, e := pack.Peel(private(0), p); e != api.OK {
			t.Fatalf("504 bytes: error %d", e)
		}
		for long := range 1100 {
			if long != 504 {
				notPeeled(t, fmt.Sprintf("%d bytes, %d hops", long, n+1), api.ErrForm, private(0), (p + p + p)[:long])
				notPeeled(t, fmt.Sprintf("%d bytes 0", long), api.ErrForm, private(0), zeros(long))
			}
		}
		for _, long := range []int{api.MaxBytes, api.MaxBytes + 504, 1 << 20} {
			notPeeled(t, "a long packet", api.ErrForm, private(0), p+zeros(long-504))
		}
		notPeeled(t, "one byte ahead", api.ErrForm, private(0), "\x00"+p)
		notPeeled(t, "the first byte off", api.ErrForm, private(0), p[1:])
		notPeeled(t, "a byte of the header off", api.ErrForm, private(0), p[:247]+p[248:])
	}
}

func TestPrivateKeysOfOtherLengths(t *testing.T) {
	p := made(t, seed(), points(1), "hi", drop())
	for _, s := range []string{"", "k", private(0)[:31], private(0) + "\x00", private(0) + private(0), p[:248], zeros(api.MaxBytes)} {
		what := fmt.Sprintf("a private key of %d bytes", len(s))
		notPeeled(t, what, api.ErrForm, s, p)
		notPeeled(t, what+", a packet of 503", api.ErrForm, s, p[:503])
		notPeeled(t, what+", bytes 0", api.ErrForm, s, zeros(504))
	}
}

// TestOtherHopsKeys: each hop's key peels what this hop is handed, and nothing else.
func TestOtherHopsKeys(t *testing.T) {
	l, _ := byHand(t, "hi", append(onward(4), home(5, 6, id))...)
	for i, p := range l {
		for other := range 6 {
			if other != i {
				notPeeled(t, fmt.Sprintf("the hop %d by the key %d", i, other), api.ErrMac, private(other), p)
			}
		}
		notPeeled(t, "by the seed", api.ErrMac, seed(), p)
		notPeeled(t, "by 0", api.ErrMac, zeros(32), p)
	}
}

// TestWeakHeaders: everybody knows the secret 0, so what is right under its keys is refused too.
func TestWeakHeaders(t *testing.T) {
	p := made(t, seed(), points(1), "hi", drop())
	for _, w := range []string{zeros(32), "\x01" + zeros(31), "\xec" + strings.Repeat("\xff", 30) + "\x7f"} {
		notPeeled(t, "its point changed", api.ErrWeak, private(0), w+p[32:])
		notPeeled(t, "all else 0", api.ErrWeak, private(0), w+zeros(472))
		h, k := sealed(w, zeros(32), "\x04"+zeros(23))
		notPeeled(t, "a right mac", api.ErrWeak, private(0), h+shut(k.Body, plain("hi")))
	}
}

// TestNoCommand: a header with its right mac whose command is none, ahead of a right payload or a wrong one.
func TestNoCommand(t *testing.T) {
	for _, c := range []string{zeros(24), "\x05" + zeros(23), "\x01\x20" + zeros(22), "\x04" + zeros(22) + "\x01", strings.Repeat("\xff", 24)} {
		h, k := forged(1, c)
		for _, b := range []string{shut(k.Body, plain("hi")), zeros(256), drawn(13, 256)} {
			notPeeled(t, fmt.Sprintf("the command %x", c), api.ErrRoute, private(1), h+b)
		}
	}
}

// TestForgedHeaders: what is behind the command is not asked at the last hop, and goes on with what is opened at another.
func TestForgedHeaders(t *testing.T) {
	h, k := forged(0, "\x04"+zeros(23))
	peeled(t, "a drop", private(0), h+shut(k.Body, plain("hi")), api.Peeled{Hop: drop(), Tag: k.Tag, Text: "hi"})
	h, k = forged(0, "\x01\x02\x00\x03"+zeros(20))
	_, next, _, e := head.Peel(private(0), h)
	if e != api.OK {
		t.Fatalf("the header: error %d", e)
	}
	peeled(t, "on", private(0), h+shut(k.Body, plain("hi")), api.Peeled{Hop: on(2, 3), Tag: k.Tag, Next: next + plain("hi")})
}

// TestPeelSeveralWrong has all mixtures of what can be wrong: what is named first is told.
func TestPeelSeveralWrong(t *testing.T) {
	for mix := 1; mix < 64; mix++ {
		has := func(i int) bool { return mix>>i&1 == 1 }
		key, command := private(0), "\x04"+zeros(23)
		point, _ := curve.Public(seed())
		secret, _ := curve.Times(seed(), points(1)[0])
		want := api.ErrBody
		if has(4) {
			command, want = zeros(24), api.ErrRoute
		}
		if has(2) {
			point, secret = zeros(32), zeros(32)
		}
		h, k := sealed(point, secret, command)
		body := shut(k.Body, plain("hi"))
		if has(5) {
			body = shut(k.Body, turned(plain("hi"), 255, 1))
		}
		if has(3) {
			h, want = turned(h, 47, 1), api.ErrMac
		}
		if has(2) {
			want = api.ErrWeak
		}
		if has(1) {
			key, want = key[:31], api.ErrForm
		}
		if has(0) {
			body, want = body+"\x00", api.ErrForm
		}
		notPeeled(t, fmt.Sprintf("the mixture %b", mix), want, key, h+body)
	}
}

// Promise 9.3.

// TestHopByHop peels what Make made: each hop what the one ahead of it handed on.
func TestHopByHop(t *testing.T) {
	for n := 1; n <= 5; n++ {
		for _, end := range ends() {
			for _, text := range []string{"", "\x00", drawn(14, 221), drawn(15, 222)} {
				path := append(onward(n-1), end)
				through(t, made(t, seed(), points(n), text, path...), text, path)
			}
		}
	}
}

// through fails unless the packet comes through the hops of this path, and the last has the text.
func through(t *testing.T, packet, text string, path []api.Hop) {
	t.Helper()
	for i, h := range path {
		x, e := pack.Peel(private(i), packet)
		if e != api.OK || x.Hop != h || len(x.Tag) != 16 {
			t.Fatalf("the hop %d of %d: %+v, error %d; want %+v", i, len(path), x, e, h)
		}
		if last := i == len(path)-1; last && (x.Next != "" || x.Text != text) || !last && (len(x.Next) != 504 || x.Text != "") {
			t.Fatalf("the hop %d of %d: %d bytes go on, the text %q", i, len(path), len(x.Next), x.Text)
		}
		packet = x.Next
	}
}

// TestDrawnPaths draws all: seeds, hops (some more than once), commands, texts.
func TestDrawnPaths(t *testing.T) {
	r := rand.New(rand.NewSource(93))
	tags := map[string]bool{}
	many := 0
	for range 25 {
		n := 1 + r.Intn(5)
		var privates, publics []string
		var path []api.Hop
		for range n {
			k := drawn(r.Int63(), 32)
			if len(privates) > 0 && r.Intn(4) == 0 {
				k = privates[0]
			}
			p, _ := curve.Public(k)
			privates, publics = append(privates, k), append(publics, p)
			path = append(path, on(r.Intn(32), r.Intn(4097)))
		}
		last := []api.Hop{home(r.Intn(64), r.Intn(4097), drawn(r.Int63(), 16)), loop(drawn(r.Int63(), 16)), drop()}
		path[n-1] = last[r.Intn(3)]
		text := drawn(r.Int63(), r.Intn(223))
		p := made(t, drawn(r.Int63(), 32), publics, text, path...)
		for i := range n {
			x, e := pack.Peel(privates[i], p)
			if e != api.OK || x.Hop != path[i] || (i == n-1) != (x.Next == "") || i == n-1 && x.Text != text || i < n-1 && (x.Text != "" || len(x.Next) != 504) {
				t.Fatalf("the hop %d of %d: %+v, error %d; want %+v", i, n, x, e, path[i])
			}
			p = x.Next
			tags[x.Tag] = true
			many++
		}
	}
	if len(tags) != many {
		t.Errorf("%d replay tags of %d hops", len(tags), many)
	}
}

// TestChangedPayload changes a byte of the payload ahead of each hop: those ahead of the last one peel it all the same, and hand on another payload behind the same header; the last one does not have the text.
func TestChangedPayload(t *testing.T) {
	for n := 1; n <= 5; n++ {
		path := append(onward(n-1), ends()[n%3])
		l, keys := byHand(t, "hi", path...)
		for from := range n {
			for _, at := range []int{248, 279, 280, 281, 282, 300, 503} {
				for _, by := range []byte{1, 0xff} {
					changedFrom(t, turned(l[from], at, by), from, l, keys, path)
				}
			}
		}
	}
}

// changedFrom lets the packet go on from that hop on, beside what the hops would be handed of an unchanged one.
func changedFrom(t *testing.T, packet string, from int, unchanged []string, keys []api.Keys, path []api.Hop) {
	t.Helper()
	last := len(path) - 1
	for i := from; i < last; i++ {
		x, e := pack.Peel(private(i), packet)
		if e != api.OK || x.Hop != path[i] || x.Tag != keys[i].Tag || x.Text != "" || len(x.Next) != 504 {
			t.Fatalf("changed ahead of %d of %d, the hop %d: %+v, error %d", from, last+1, i, x, e)
		}
		if x.Next[:248] != unchanged[i+1][:248] || x.Next[248:] == unchanged[i+1][248:] {
			t.Fatalf("changed ahead of %d of %d, the hop %d: another header, or the same payload", from, last+1, i)
		}
		packet = x.Next
	}
	notPeeled(t, fmt.Sprintf("changed ahead of %d of %d", from, last+1), api.ErrBody, private(last), packet)
}

// TestEachByteOfPayload changes each byte ahead of the last hop.
func TestEachByteOfPayload(t *testing.T) {
	p := made(t, seed(), points(1), "hi", loop(id))
	for at := 248; at < 504; at++ {
		for _, by := range []byte{1, 0x80} {
			notPeeled(t, fmt.Sprintf("the byte %d", at), api.ErrBody, private(0), turned(p, at, by))
		}
	}
}

// TestOtherPayloads: one who has the keys can put another text in, which is then told; one who has not can put in nothing.
func TestOtherPayloads(t *testing.T) {
	path := append(onward(2), home(1, 2, id))
	l, keys := byHand(t, "hi", path...)
	through(t, l[0][:248]+covered(plain("ho"), keys...), "ho", path)
	other := made(t, drawn(16, 32), points(3), "ho", path...)
	changedFrom(t, l[0][:248]+other[248:], 0, l, keys, path)
	changedFrom(t, l[0][:248]+zeros(256), 0, l, keys, path)
	changedFrom(t, l[0][:248]+l[1][248:], 0, l, keys, path)
	changedFrom(t, l[1][:248]+l[0][248:], 1, l, keys, path)
}

// TestChangedHeader: a byte of the mac or the list, ahead of each hop, be the payload right or not.
func TestChangedHeader(t *testing.T) {
	l, _ := byHand(t, "hi", append(onward(2), drop())...)
	for i, p := range l {
		for at := 32; at < 248; at += 5 {
			notPeeled(t, fmt.Sprintf("the hop %d, the byte %d", i, at), api.ErrMac, private(i), turned(p, at, 1))
			notPeeled(t, fmt.Sprintf("the hop %d, the byte %d and the payload", i, at), api.ErrMac, private(i), turned(turned(p, at, 0x80), 400, 1))
		}
		for at := range 32 {
			notPeeled(t, fmt.Sprintf("the hop %d, the point's byte %d", i, at), api.ErrMac, private(i), turned(p, at, 1))
		}
		notPeeled(t, "the halves the other way round", api.ErrMac, private(i), p[256:]+p[:256])
		notPeeled(t, "the payload ahead", api.ErrMac, private(i), p[248:]+p[:248])
		notPeeled(t, "another hop's header", api.ErrMac, private(i), l[(i+1)%3][:248]+p[248:])
	}
}

// TestHighestBitOfPoint: chapter 2 passes it over, so the packet is the same one, with the same replay tag.
func TestHighestBitOfPoint(t *testing.T) {
	l, keys := byHand(t, "hi", on(1, 2), drop())
	peeled(t, "the first", private(0), turned(l[0], 31, 0x80), api.Peeled{Hop: on(1, 2), Next: l[1], Tag: keys[0].Tag})
	peeled(t, "the second", private(1), turned(l[1], 31, 0x80), api.Peeled{Hop: drop(), Tag: keys[1].Tag, Text: "hi"})
}

// The rules that hold everywhere.

// TestListsAreLeftAlone: what is handed in stays, and what lies behind it is neither read nor written.
func TestListsAreLeftAlone(t *testing.T) {
	publics := append(points(5), "no point", zeros(32))
	path := append(onward(2), drop(), api.Hop{Kind: 9}, on(32, 0))
	keptPoints, keptPath := slices.Clone(publics), slices.Clone(path)
	p := made(t, seed(), publics[:3], "hi", path[:3]...)
	if p != made(t, seed(), slices.Clip(slices.Clone(publics[:3])), "hi", slices.Clip(slices.Clone(path[:3]))...) {
		t.Error("what lies behind a list's length is read")
	}
	for _, many := range []int{1, 2, 4, 5} {
		pack.Make(seed(), publics[:many], "hi", path[:3]...)
		pack.Make(seed(), publics[:many], "hi", path[:many]...)
	}
	pack.Make(seed(), publics[4:7], "hi", path[:3]...)
	pack.Make(seed(), publics[:3], zeros(223), path[:3]...)
	pack.Make("", publics[:3], "hi", path[:3]...)
	if !slices.Equal(publics, keptPoints) || !slices.Equal(path, keptPath) {
		t.Error("a list that was handed in is another one now")
	}
}

func TestNoCallPanics(t *testing.T) {
	r := rand.New(rand.NewSource(94))
	for n := range 600 {
		s := drawn(r.Int63(), n)
		pack.Peel(s, s)
		pack.Peel(private(0), s)
		pack.Make(s, []string{s}, s, drop())
		pack.Make(s, slices.Repeat([]string{s}, n), s, slices.Repeat([]api.Hop{drop()}, n)...)
		pack.Make(s, slices.Repeat([]string{s}, n%7), s, append(onward(n%6), drop())...)
		pack.Make(s, nil, s, api.Hop{Kind: n, Node: -n, User: n, Delay: -n, Id: s})
	}
}

// TestCallsDoNotTouch: calls at the same time do not touch each other, and the same call tells the same.
func TestCallsDoNotTouch(t *testing.T) {
	var wait sync.WaitGroup
	told := make([]string, 8)
	for i := range told {
		path, text := append(onward(i%5), loop(id)), texts()[i]
		l, keys := byHand(t, text, path...)
		wait.Add(1)
		go func() {
			defer wait.Done()
			for range 3 {
				p, e := pack.Make(seed(), points(len(path)), text, path...)
				x, f := pack.Peel(private(0), l[0])
				if p != l[0] || e != api.OK || x.Hop != path[0] || x.Tag != keys[0].Tag || f != api.OK {
					told[i] = fmt.Sprintf("%d hops: errors %d %d", len(path), e, f)
				}
			}
		}()
	}
	wait.Wait()
	for _, s := range told {
		if s != "" {
			t.Error(s)
		}
	}
}
