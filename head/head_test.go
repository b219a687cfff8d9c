package head_test

import (
	"encoding/hex"
	"fmt"
	"math/rand"
	"slices"
	"strings"
	"sync"
	"testing"

	"dovecote/api"
	"dovecote/curve"
	"dovecote/hash"
	"dovecote/head"
	"dovecote/keyed"
	"dovecote/stream"
)

const id = "an id of 16 byte"

// drawn is a text of so many bytes, the same one in each run.
func drawn(seed int64, many int) string {
	b := make([]byte, many)
	rand.New(rand.NewSource(seed)).Read(b)
	return string(b)
}

// counted has so many bytes, from one on, each one more than that ahead.
func counted(from byte, many int) string {
	b := make([]byte, many)
	for i := range b {
		b[i] = from + byte(i)
	}
	return string(b)
}

// zeros has so many bytes 0.
func zeros(many int) string {
	return strings.Repeat("\x00", many)
}

// digits is the text that these hexadecimal digits tell.
func digits(s string) string {
	b, err := hex.DecodeString(s)
	if err != nil {
		panic(err)
	}
	return string(b)
}

// turned is the text with the byte at a place xor another.
func turned(s string, at int, by byte) string {
	return s[:at] + string([]byte{s[at] ^ by}) + s[at+1:]
}

// xored is the first text, byte by byte, and the beginning of the second.
func xored(a, b string) string {
	x := []byte(a)
	for i := range x {
		x[i] ^= b[i]
	}
	return string(x)
}

// on, home, loop and drop are commands of each kind.
func on(node, delay int) api.Hop { return api.Hop{Kind: api.HOn, Node: node, Delay: delay} }

func home(user, delay int, id string) api.Hop {
	return api.Hop{Kind: api.HHome, User: user, Delay: delay, Id: id}
}

func loop(id string) api.Hop { return api.Hop{Kind: api.HLoop, Id: id} }

func drop() api.Hop { return api.Hop{Kind: api.HDrop} }

// commandBytes is chapter 7's bytes of a command that may be.
func commandBytes(h api.Hop) string {
	text := h.Id
	if text == "" {
		text = zeros(16)
	}
	return string([]byte{byte(h.Kind), byte(h.Node + h.User), byte(h.Delay / 256), byte(h.Delay % 256)}) + text + zeros(4)
}

// onward is so many commands that go on, of differing nodes and delays, the edges of both among them.
func onward(many int) []api.Hop {
	l := []api.Hop{on(3, 258), on(0, 0), on(31, 4096), on(7, 1), on(12, 255), on(1, 2)}
	return slices.Clone(l[:many])
}

// ends are commands of each kind that a path can end with.
func ends() []api.Hop {
	return []api.Hop{home(63, 4096, id), home(0, 0, zeros(16)), loop(id), loop(strings.Repeat("\xff", 16)), drop()}
}

// private is the key of the hop of that number.
func private(i int) string { return counted(byte(32*i), 32) }

// points are those of the first hops.
func points(many int) []string {
	var l []string
	for i := range many {
		p, _ := curve.Public(private(i))
		l = append(l, p)
	}
	return l
}

// seed is one of which bits are not as they are when it is clamped.
func seed() string { return counted(201, 32) }

// weak are points of which a product is 0: 0 and 1, what is the same modulo the prime, and the others of small order; each with its highest bit set and not.
func weak() []string {
	var l []string
	for _, s := range []string{
		"0000000000000000000000000000000000000000000000000000000000000000",
		"0100000000000000000000000000000000000000000000000000000000000000",
		"ecffffffffffffffffffffffffffffffffffffffffffffffffffffffffffff7f",
		"edffffffffffffffffffffffffffffffffffffffffffffffffffffffffffff7f",
		"eeffffffffffffffffffffffffffffffffffffffffffffffffffffffffffff7f",
		"e0eb7a7c3b41b8ae1656e3faf19fc46ada098deb9c32b1fd866205165f49b800",
		"5f9c95bca3508c24b1d0b1559c83ef5b04445cc4581c8e86d8224eddd09f1157",
	} {
		l = append(l, digits(s), turned(digits(s), 31, 0x80))
	}
	return l
}

// otherLengths are texts that are no secret, seed, point or private key.
func otherLengths() []string {
	return []string{"", "x", zeros(16), zeros(31), counted(9, 31), zeros(33), counted(9, 33), zeros(64), drawn(3, 248), zeros(api.MaxBytes), zeros(api.MaxBytes + 32)}
}

// keysByHand is each key as chapter 4 derives it for its label.
func keysByHand(secret string) api.Keys {
	of := func(label string, n int) string {
		k, _ := keyed.Derive(secret, label, n)
		return k
	}
	return api.Keys{Flow: of("flow", 32), Mac: of("mac", 32), Body: of("body", 32), Blind: of("blind", 32), Tag: of("tag", 16)}
}

// flowByHand is the 240 bytes of a hop's flow.
func flowByHand(k api.Keys) string {
	s, _ := stream.Bytes(k.Flow, zeros(12), 240)
	return s
}

func macByHand(k api.Keys, list string) string {
	return keyed.Tag(k.Mac, list)[:16]
}

// plan is all that the chapter's words speak of, hop by hop: points, keys and the bytes of commands.
type plan struct {
	seed     string
	points   []string
	keys     []api.Keys
	commands []string
}

// planned makes the secrets and points by products, one by one.
func planned(seed string, publics []string, path []api.Hop) plan {
	p := plan{seed: seed}
	point, _ := curve.Public(seed)
	scalars := []string{seed}
	for i, secret := range publics {
		for _, k := range scalars {
			secret, _ = curve.Times(k, secret)
		}
		keys := keysByHand(secret)
		p.points, p.keys, p.commands = append(p.points, point), append(p.keys, keys), append(p.commands, commandBytes(path[i]))
		point, _ = curve.Times(keys.Blind, point)
		scalars = append(scalars, keys.Blind)
	}
	return p
}

func (p plan) filler(hops int) string {
	if hops == 0 {
		return ""
	}
	return xored(p.filler(hops-1)+zeros(40), flowByHand(p.keys[hops-1])[240-40*hops:])
}

func (p plan) list(i int) string {
	n, flow := len(p.keys), flowByHand(p.keys[i])
	if i < n-1 {
		return xored(p.commands[i]+macByHand(p.keys[i+1], p.list(i+1))+p.list(i + 1)[:160], flow)
	}
	pad, _ := keyed.Derive(p.seed, "pad", 200)
	return xored((p.commands[i] + zeros(16) + pad)[:200-40*(n-1)], flow) + p.filler(n-1)
}

// header is what the hop of that number is handed.
func (p plan) header(i int) string {
	return p.points[i] + macByHand(p.keys[i], p.list(i)) + p.list(i)
}

// forged is a header for the hop of that number with a right mac, of a list of 200 bytes that Make need not make; and the keys.
func forged(hop int, list string) (string, api.Keys) {
	point, _ := curve.Public(seed())
	secret, _ := curve.Times(seed(), points(hop + 1)[hop])
	k := keysByHand(secret)
	shut := xored(list, flowByHand(k))
	return point + macByHand(k, shut) + shut, k
}

// made fails if Make refuses these.
func made(t *testing.T, seed string, points []string, path ...api.Hop) (string, []api.Keys) {
	t.Helper()
	h, keys, e := head.Make(seed, points, path...)
	if e != api.OK || len(h) != 248 || len(keys) != len(path) {
		t.Fatalf("Make of %d hops: %d bytes, %d keys, error %d", len(path), len(h), len(keys), e)
	}
	return h, keys
}

// noHeader fails unless Make answers this error, and nothing beside it.
func noHeader(t *testing.T, what string, want api.Errno, seed string, points []string, path ...api.Hop) {
	t.Helper()
	h, keys, e := head.Make(seed, points, path...)
	if e != want || h != "" || len(keys) != 0 {
		t.Errorf("%s: Make: %d bytes, %d keys, error %d; want error %d alone", what, len(h), len(keys), e, want)
	}
}

// peeled fails unless Peel answers just this.
func peeled(t *testing.T, what, private, header string, hop api.Hop, next string, keys api.Keys) {
	t.Helper()
	h, n, k, e := head.Peel(private, header)
	if e != api.OK || h != hop || n != next || k != keys {
		t.Errorf("%s: Peel: %+v, %x, %x, error %d; want %+v, %x, %x", what, h, n, k, e, hop, next, keys)
	}
}

// notPeeled fails unless Peel answers this error, and nothing beside it.
func notPeeled(t *testing.T, what string, want api.Errno, private, header string) {
	t.Helper()
	h, n, k, e := head.Peel(private, header)
	if e != want || h != (api.Hop{}) || n != "" || k != (api.Keys{}) {
		t.Errorf("%s: Peel: %+v, %x, %x, error %d; want error %d alone", what, h, n, k, e, want)
	}
}

// Promise 8.1.

// TestVectors has keys and headers that another program made, out of HMAC of its library and an X25519 and a ChaCha20 of its own.
func TestVectors(t *testing.T) {
	k, e := head.Of(counted(0, 32))
	want := api.Keys{
		Flow:  digits("ef6eac0488983465b423cdbfe9217d39bea23bfb9de04cc853f89aa71b9d0f1d"),
		Mac:   digits("af93a816ed66c661a3d43511e8722d71c9b8fcfd9dd495bedcb5e5d2df5774a0"),
		Body:  digits("52b3cbeb02975c5c81dc573b922bd08563683d4375a74d11a8538f3b88d94d54"),
		Blind: digits("a16495c6e752862b8bdc8b9b70a89c7befee7adcc4e6ce04dad225e0ebc7b2b4"),
		Tag:   digits("b8ed0dfeb12693baca9c62fc0cb23962"),
	}
	if k != want || e != api.OK {
		t.Errorf("Of: %x, error %d; want %x", k, e, want)
	}
	h, _ := made(t, counted(200, 32), points(1), drop())
	if want := "4d5bab89b0733d9d8dcecf04f321c90b761b7765a6bdb2bddbfad3e7abdf1f66430a4853e2b7e40f2be907f332ca2fc2cbcfbcf992cec92fa61311cb6c1f4081e2d99a1399d6df054300e02b56a53cd95fc6e3e44bf9c61f87cfb765745cee6082e5fad1f8b6f1a64d2d85ee7f8981bc40a73750066a895f29fb78c4fe5e1075130cbe209003af9b997526743c54913f6155daf70f74fb1835c737c68e6d8507e81bc6b756a8a38f331ff1cb83ef3ccf9a912b44440a2cd3af999ba4c481c936b8b5e9129ec29751c2fbdeb1e8be5f48a5e5dd5ee63f8fe76ee56c075917bfc7a61deb2f800a5e2dd2c43dbe38e6aec6b0afe2ef95211988"; hash.Hex(h) != want {
		t.Errorf("Make: %x; want %s", h, want)
	}
	for i, v := range []struct{ home, loop, drop, keys string }{
		{"092e74051871dd82461fb2e20fdcb76df9992e18efac4789115a250757f48805", "b08a877c624690035410b6599b1b4fb536cd7d23e1d414124a5389a97d578063", "b5b84e0cff1d3ba977bda0a2af0139f63b4e64169c45f704344eee0525577a51", "b2d217222134cbd8dd19bc8a54f0788331331f1c54c21b05109d68ab8b372b3e"},
		{"b20b818eda5e31ab129f201ca758003f1719b05c7c0bb67c760e8d43948c6c03", "ccb77959d89917e68eb9dd2cb58dfa881eb2f99fabf0e30b0b9dd6bd7c6664ca", "ce84df59de129cfa0c1a698abea5f17f7c196be08cf5e55afe28fe81d9d09199", "5acb1dec4edbf36aae4cf4dcfe739a811dfaef82778c71246a84ac8cadd3e7cb"},
		{"a2ca636e3329600b5cf3b8f9bacc359682bd8277a6370e3242671464c2b7f7f8", "c1217e846ebef6262df4aa60798a3af2673d64eb9342430a1c009e064bebc3fa", "4fa0ef61f492f51594c1bd0b37ceb27c4d977e4f35a0e9e1d7e654be2edf31c1", "eeb2ad24d4f984f9300826b5a9e7c94064a0538589f396dae3b444e5a53a125c"},
		{"ddf83cdc4e1b17f3a5b545656f2d1bf445b385b962426be45aa2bf9f6863c367", "6b1a0df67c4c2616fa20bcafc126c1c9b93309b959a891b5c5dc1a6d75ba3a0c", "f3739fc122bb16e4434e714da5b2d1671cce8c9420ba04e0aae8e606804c711d", "173c83ef80b65529b0005f62d6580c47d6bffcf48ba5a315dd2eb5759cc2f251"},
		{"c2bbc0529c26ce512facb41832f8a083a0b8d685f17a11fad64552740f1c081f", "88748fe9cb1a8f3fdbd50f6d62d8cdb7ad6a6f92d3a6de60ba4ce9cd88f5d989", "f6621187a5ae4d1c331f9b7291ff6d0d299db3bfb0a488099b953c2d2049a927", "92f97e56c783f5002d49dd57b04ac16c8af62cc6706219aad61263b088298c91"},
	} {
		for end, want := range map[api.Hop]string{home(63, 4096, id): v.home, loop(id): v.loop, drop(): v.drop} {
			h, keys := made(t, counted(200, 32), points(i+1), append(onward(i), end)...)
			if got := hash.Hex(hash.Sum(h)); got != want {
				t.Errorf("%d hops, %+v: the digest of the header is %s; want %s", i+1, end, got, want)
			}
			all := ""
			for _, k := range keys {
				all += k.Flow + k.Mac + k.Body + k.Blind + k.Tag
			}
			if got := hash.Hex(hash.Sum(all)); got != v.keys {
				t.Errorf("%d hops, %+v: the digest of the keys is %s; want %s", i+1, end, got, v.keys)
			}
		}
	}
}

// TestKeysOfASecret: all secrets of 32 bytes have keys, 0 too: who asks for them is not asked where the secret is from.
func TestKeysOfASecret(t *testing.T) {
	secrets := []string{zeros(32), strings.Repeat("\xff", 32), counted(0, 32), "\x01" + zeros(31), zeros(31) + "\x80", drawn(1, 32), drawn(2, 32)}
	for _, s := range append(secrets, weak()...) {
		k, e := head.Of(s)
		if want := keysByHand(s); k != want || e != api.OK {
			t.Errorf("Of(%x): %x, error %d; want %x", s, k, e, want)
		}
		if len(k.Flow) != 32 || len(k.Mac) != 32 || len(k.Body) != 32 || len(k.Blind) != 32 || len(k.Tag) != 16 {
			t.Errorf("Of(%x): keys of other lengths: %x", s, k)
		}
	}
}

func TestSecretsOfOtherLengths(t *testing.T) {
	l := otherLengths()
	for n := range 100 {
		if n != 32 {
			l = append(l, drawn(int64(n), n))
		}
	}
	for _, s := range l {
		if k, e := head.Of(s); k != (api.Keys{}) || e != api.ErrForm {
			t.Errorf("Of of %d bytes: %x, error %d", len(s), k, e)
		}
	}
}

// TestMakeByHand has paths of each length, with each kind at the end.
func TestMakeByHand(t *testing.T) {
	for _, seed := range []string{seed(), zeros(32), strings.Repeat("\xff", 32)} {
		for n := 1; n <= 5; n++ {
			for _, end := range ends() {
				path := append(onward(n-1), end)
				h, keys := made(t, seed, points(n), path...)
				p := planned(seed, points(n), path)
				if h != p.header(0) {
					t.Errorf("%d hops, %+v: %x; want %x", n, end, h, p.header(0))
				}
				if !slices.Equal(keys, p.keys) {
					t.Errorf("%d hops, %+v: the keys %x; want %x", n, end, keys, p.keys)
				}
			}
		}
	}
}

// TestOneHopInPieces has each piece of a header of one hop, and nothing of the lists of several.
func TestOneHopInPieces(t *testing.T) {
	h, keys := made(t, seed(), points(1), home(7, 300, id))
	point, _ := curve.Public(seed())
	secret, _ := curve.Shared(seed(), points(1)[0])
	k, _ := head.Of(secret)
	pad, _ := keyed.Derive(seed(), "pad", 160)
	open := xored(h[48:], flowByHand(k))
	if h[:32] != point || keys[0] != k || h[32:48] != macByHand(k, h[48:]) {
		t.Errorf("the point, the keys or the mac: %x %x", h[:48], keys)
	}
	if open[:24] != "\x02\x07\x01\x2c"+id+zeros(4) || open[24:40] != zeros(16) || open[40:] != pad {
		t.Errorf("the list: %x", open)
	}
}

// TestSeedIsClampedForPointsAlone: seeds that are one scalar have the same point and keys, but the pad is of their bytes.
func TestSeedIsClampedForPointsAlone(t *testing.T) {
	clamped, _ := curve.Clamp(seed())
	h, keys := made(t, seed(), points(2), on(1, 2), drop())
	other, otherKeys := made(t, clamped, points(2), on(1, 2), drop())
	if h[:32] != other[:32] || !slices.Equal(keys, otherKeys) {
		t.Error("another point, or other keys, of the same scalar")
	}
	if h[48:] == other[48:] {
		t.Error("the same list of another seed")
	}
}

// TestPointsAreTakenAsChapter2Does: the highest bit of a hop's point is passed over; one hop may come twice.
func TestPointsAreTakenAsChapter2Does(t *testing.T) {
	path := append(onward(2), drop())
	h, keys := made(t, seed(), points(3), path...)
	for at := range 3 {
		l := points(3)
		l[at] = turned(l[at], 31, 0x80)
		other, otherKeys := made(t, seed(), l, path...)
		if other != h || !slices.Equal(keys, otherKeys) {
			t.Errorf("the highest bit of the point %d is not passed over", at)
		}
	}
	twice := slices.Repeat(points(1), 3)
	h, keys = made(t, seed(), twice, path...)
	p := planned(seed(), twice, path)
	if h != p.header(0) || !slices.Equal(keys, p.keys) {
		t.Error("one hop three times: another header, or other keys")
	}
}

func TestPathsOfEachLength(t *testing.T) {
	noHeader(t, "no command", api.ErrShape, seed(), nil)
	noHeader(t, "no command", api.ErrShape, seed(), []string{}, []api.Hop{}...)
	noHeader(t, "no command, a point", api.ErrShape, seed(), points(1))
	for _, end := range ends() {
		for n := 1; n <= 5; n++ {
			made(t, seed(), points(n), append(onward(n-1), end)...)
		}
		noHeader(t, "six commands", api.ErrShape, seed(), points(6), append(onward(5), end)...)
		noHeader(t, "seven commands", api.ErrShape, seed(), points(7), append(onward(6), end)...)
	}
	long := slices.Repeat([]api.Hop{on(1, 1)}, api.MaxItems)
	noHeader(t, "very many", api.ErrShape, seed(), slices.Repeat(points(1), api.MaxItems+1), append(long, drop())...)
}

func TestPathsOfAnotherShape(t *testing.T) {
	for n := 1; n <= 5; n++ {
		noHeader(t, "the last goes on", api.ErrShape, seed(), points(n), onward(n)...)
		for at := range n - 1 {
			for _, early := range ends() {
				path := append(onward(n-1), drop())
				path[at] = early
				noHeader(t, "one ends early", api.ErrShape, seed(), points(n), path...)
			}
		}
	}
}

// none are commands that may not be.
func none() []api.Hop {
	return []api.Hop{{}, {Kind: 5}, {Kind: 257}, {Kind: -1}, on(32, 0), on(-1, 0), on(0, 4097), home(64, 0, id), home(0, 0, id[:15]), loop(""), loop(id + "x"), {Kind: api.HDrop, Delay: 1}, {Kind: api.HOn, Id: id}}
}

func TestPathsWithOneThatMayNotBe(t *testing.T) {
	for _, bad := range none() {
		for n := 1; n <= 7; n++ {
			for at := range n {
				path := append(onward(n-1), drop())
				path[at] = bad
				noHeader(t, fmt.Sprintf("%+v at %d of %d", bad, at, n), api.ErrRoute, seed(), points(n), path...)
			}
		}
	}
}

// TestFewerAndMorePoints: whether the points are such is not asked any more.
func TestFewerAndMorePoints(t *testing.T) {
	for n := 1; n <= 5; n++ {
		path := append(onward(n-1), drop())
		for _, many := range []int{0, n - 1, n + 1, n + 2, api.MaxItems} {
			if many == n {
				continue
			}
			what := fmt.Sprintf("%d points, %d commands", many, n)
			noHeader(t, what, api.ErrShape, seed(), slices.Repeat(points(1), many), path...)
			noHeader(t, what+", no points", api.ErrShape, seed(), make([]string, many), path...)
			noHeader(t, what+", no seed", api.ErrShape, "", slices.Repeat(weak()[:1], many), path...)
		}
	}
}

func TestSeedsOfOtherLengths(t *testing.T) {
	for _, s := range otherLengths() {
		for n := 1; n <= 5; n++ {
			path := append(onward(n-1), drop())
			what := fmt.Sprintf("a seed of %d bytes, %d hops", len(s), n)
			noHeader(t, what, api.ErrForm, s, points(n), path...)
			noHeader(t, what+", weak", api.ErrForm, s, slices.Repeat(weak()[:1], n), path...)
		}
	}
}

// TestPointsOfOtherLengths has one at each place: it is told ahead of a secret that is 0, also where that one's hop comes first.
func TestPointsOfOtherLengths(t *testing.T) {
	for _, s := range otherLengths() {
		for n := 1; n <= 5; n++ {
			path := append(onward(n-1), loop(id))
			for at := range n {
				l := points(n)
				l[at] = s
				what := fmt.Sprintf("a point of %d bytes at %d of %d", len(s), at, n)
				noHeader(t, what, api.ErrForm, seed(), l, path...)
				l = slices.Repeat(weak()[:1], n)
				l[at] = s
				noHeader(t, what+", the others weak", api.ErrForm, seed(), l, path...)
				noHeader(t, what+", no seed", api.ErrForm, s, l, path...)
			}
		}
	}
}

// TestWeakPoints has one at each place, and all of them.
func TestWeakPoints(t *testing.T) {
	for _, w := range weak() {
		for n := 1; n <= 5; n++ {
			path := append(onward(n-1), drop())
			for at := range n {
				l := points(n)
				l[at] = w
				noHeader(t, fmt.Sprintf("%x at %d of %d", w, at, n), api.ErrWeak, seed(), l, path...)
			}
			noHeader(t, fmt.Sprintf("%x, %d times", w, n), api.ErrWeak, seed(), slices.Repeat([]string{w}, n), path...)
		}
	}
}

// TestPointsNearWeakOnes: those beside them are such as others are.
func TestPointsNearWeakOnes(t *testing.T) {
	for _, p := range []string{"\x02" + zeros(31), zeros(31) + "\x01", "\xeb" + strings.Repeat("\xff", 30) + "\x7f", "\xef" + strings.Repeat("\xff", 30) + "\x7f", strings.Repeat("\xff", 32)} {
		h, keys := made(t, seed(), []string{p}, drop())
		q := planned(seed(), []string{p}, []api.Hop{drop()})
		if h != q.header(0) || !slices.Equal(keys, q.keys) {
			t.Errorf("the point %x: another header, or other keys", p)
		}
	}
}

// TestMakeSeveralWrong has all mixtures of what can be wrong: what is named first is told.
func TestMakeSeveralWrong(t *testing.T) {
	for mix := 1; mix < 64; mix++ {
		path, l, s := append(onward(2), drop()), points(3), seed()
		want := api.OK
		for i, wrong := range []struct {
			e  api.Errno
			do func()
		}{
			{api.ErrRoute, func() { path[1] = on(32, 0) }},
			{api.ErrShape, func() { path[2] = on(1, 1) }},
			{api.ErrShape, func() { l = append(l, l[0]) }},
			{api.ErrForm, func() { s = s[:31] }},
			{api.ErrForm, func() { l[2] += "\x00" }},
			{api.ErrWeak, func() { l[0] = zeros(32) }},
		} {
			if mix>>i&1 == 0 {
				continue
			}
			wrong.do()
			if want == api.OK {
				want = wrong.e
			}
		}
		noHeader(t, fmt.Sprintf("the mixture %b", mix), want, s, l, path...)
	}
}

// Promise 8.2.

func TestExample(t *testing.T) {
	h, keys := made(t, seed(), points(1), drop())
	peeled(t, "drop", private(0), h, drop(), "", keys[0])
}

// behind is what Peel must make of all behind a command that goes on: the blinded point, and the list's rest and 40 bytes 0, xor the flow.
func behind(header string, k api.Keys) string {
	point, _ := curve.Times(k.Blind, header[:32])
	return point + xored(header[48:]+zeros(40), flowByHand(k))[24:]
}

// TestPeelByHand has lists with a right mac, whatever stands behind their command: of what is refused, that is nothing.
func TestPeelByHand(t *testing.T) {
	commands := append(onward(6), ends()...)
	for hop := range 3 {
		for _, rest := range []string{zeros(176), strings.Repeat("\xff", 176), drawn(5, 176)} {
			for _, c := range commands {
				h, k := forged(hop, commandBytes(c)+rest)
				next := ""
				if c.Kind == api.HOn {
					next = behind(h, k)
				}
				peeled(t, fmt.Sprintf("%+v", c), private(hop), h, c, next, k)
			}
		}
	}
	h, k := forged(0, commandBytes(on(1, 2))+counted(7, 176))
	if next := behind(h, k); len(next) != 248 || next[32:208] != counted(7, 176) || next[208:] != flowByHand(k)[200:] {
		t.Errorf("the next header: %x", next)
	}
}

// TestPeelNoCommand: a list with its right mac whose command is none.
func TestPeelNoCommand(t *testing.T) {
	for _, c := range []string{
		zeros(24), strings.Repeat("\xff", 24), "\x05" + zeros(23),
		"\x01\x20" + zeros(22), "\x01\x00\x10\x01" + zeros(20), "\x01" + zeros(3) + id + zeros(4), "\x01" + zeros(22) + "\x01",
		"\x02\x40\x00\x00" + id + zeros(4), "\x02\x00\x10\x01" + id + zeros(4), "\x02\x00\x00\x00" + id + "\x01" + zeros(3),
		"\x03\x01\x00\x00" + id + zeros(4), "\x03\x00\x00\x01" + id + zeros(4), "\x03\x00\x00\x00" + id + zeros(3) + "\x01",
		"\x04\x01" + zeros(22), "\x04" + zeros(3) + id + zeros(4), "\x04" + zeros(22) + "\x80",
	} {
		for _, rest := range []string{zeros(176), drawn(6, 176)} {
			h, _ := forged(1, c+rest)
			notPeeled(t, fmt.Sprintf("the command %x", c), api.ErrRoute, private(1), h)
			notPeeled(t, fmt.Sprintf("the command %x, its mac changed", c), api.ErrMac, private(1), turned(h, 40, 1))
		}
	}
}

func TestPrivateKeysOfOtherLengths(t *testing.T) {
	h, _ := made(t, seed(), points(1), drop())
	for _, s := range append(otherLengths(), private(0)[:31], private(0)+"\x00") {
		what := fmt.Sprintf("a private key of %d bytes", len(s))
		notPeeled(t, what, api.ErrForm, s, h)
		notPeeled(t, what+", a header of 247", api.ErrForm, s, h[:247])
		notPeeled(t, what+", a weak header", api.ErrForm, s, zeros(248))
	}
}

func TestHeadersOfOtherLengths(t *testing.T) {
	h, keys := made(t, seed(), points(1), drop())
	peeled(t, "248 bytes", private(0), h, drop(), "", keys[0])
	for n := range 600 {
		if n == 248 {
			continue
		}
		what := fmt.Sprintf("a header of %d bytes", n)
		notPeeled(t, what, api.ErrForm, private(0), (h + h + h)[:n])
		notPeeled(t, what, api.ErrForm, private(0), zeros(n))
	}
	for _, n := range []int{api.MaxBytes, api.MaxBytes + 248, 1<<16 + 1<<20} {
		notPeeled(t, "a long header", api.ErrForm, private(0), h+zeros(n-248))
	}
	notPeeled(t, "one byte ahead", api.ErrForm, private(0), "\x00"+h)
	notPeeled(t, "the first byte off", api.ErrForm, private(0), h[1:])
}

// TestWeakHeaders: everybody knows the secret 0, so a header that is right under its keys is refused too.
func TestWeakHeaders(t *testing.T) {
	k := keysByHand(zeros(32))
	h, _ := made(t, seed(), points(1), drop())
	for _, w := range weak() {
		notPeeled(t, "its point changed", api.ErrWeak, private(0), w+h[32:])
		notPeeled(t, "all else 0", api.ErrWeak, private(0), w+zeros(216))
		for _, c := range []string{commandBytes(drop()), commandBytes(on(1, 2)), zeros(24)} {
			list := xored(c+zeros(176), flowByHand(k))
			notPeeled(t, "a right mac", api.ErrWeak, private(0), w+macByHand(k, list)+list)
		}
	}
}

func TestOtherHopsKeys(t *testing.T) {
	h, keys := made(t, seed(), points(5), append(onward(4), home(5, 6, id))...)
	for i := range 5 {
		for other := range 7 {
			if other != i {
				notPeeled(t, fmt.Sprintf("the hop %d by the key %d", i, other), api.ErrMac, private(other), h)
			}
		}
		notPeeled(t, "by the seed", api.ErrMac, seed(), h)
		notPeeled(t, "by 0", api.ErrMac, zeros(32), h)
		notPeeled(t, "by a bit", api.ErrMac, turned(private(i), 9, 1), h)
		_, next, k, e := head.Peel(private(i), h)
		if k != keys[i] || e != api.OK {
			t.Fatalf("the hop %d by its own: error %d", i, e)
		}
		h = next
	}
}

// TestPointsOfHeaders: another point has another secret; but the highest bit is passed over, as chapter 2 does.
func TestPointsOfHeaders(t *testing.T) {
	h, keys := made(t, seed(), points(2), on(1, 2), drop())
	_, next, _, _ := head.Peel(private(0), h)
	for at := range 32 {
		notPeeled(t, fmt.Sprintf("the point's byte %d", at), api.ErrMac, private(0), turned(h, at, 1))
	}
	peeled(t, "the highest bit", private(0), turned(h, 31, 0x80), on(1, 2), next, keys[0])
}

// TestPrivateKeysAreClamped: those that are one scalar peel alike.
func TestPrivateKeysAreClamped(t *testing.T) {
	h, keys := made(t, seed(), points(1), loop(id))
	for _, k := range []string{turned(private(0), 0, 7), turned(private(0), 31, 0x80), turned(private(0), 31, 0x40)} {
		peeled(t, "clamped bits", k, h, loop(id), "", keys[0])
	}
}

// TestPeelSeveralWrong has all mixtures of what can be wrong: what is named first is told.
func TestPeelSeveralWrong(t *testing.T) {
	for mix := 1; mix < 32; mix++ {
		has := func(i int) bool { return mix>>i&1 == 1 }
		key, command := private(0), commandBytes(drop())
		point, _ := curve.Public(seed())
		secret, _ := curve.Times(seed(), points(1)[0])
		want := api.ErrForm
		if has(4) {
			command, want = zeros(24), api.ErrRoute
		}
		if has(2) {
			point, secret = zeros(32), zeros(32)
		}
		k := keysByHand(secret)
		list := xored(command+drawn(8, 176), flowByHand(k))
		mac := macByHand(k, list)
		if has(3) {
			mac, want = turned(mac, 15, 1), api.ErrMac
		}
		if has(2) {
			want = api.ErrWeak
		}
		if has(1) {
			list, want = list+"\x00", api.ErrForm
		}
		if has(0) {
			key, want = key[:31], api.ErrForm
		}
		notPeeled(t, fmt.Sprintf("the mixture %b", mix), want, key, point+mac+list)
	}
}

// Promise 8.3.

// TestHopByHop: each hop has its command and the maker's keys, and hands on what the maker made for the next one.
func TestHopByHop(t *testing.T) {
	for n := 1; n <= 5; n++ {
		for _, end := range ends() {
			path := append(onward(n-1), end)
			h, keys := made(t, seed(), points(n), path...)
			p := planned(seed(), points(n), path)
			for i := range n {
				want := ""
				if i < n-1 {
					want = p.header(i + 1)
				}
				peeled(t, fmt.Sprintf("the hop %d of %d", i, n), private(i), h, path[i], want, keys[i])
				h = want
			}
		}
	}
}

// TestDrawnPaths draws all: seeds, hops (some more than once), commands.
func TestDrawnPaths(t *testing.T) {
	r := rand.New(rand.NewSource(83))
	tags := map[string]bool{}
	many := 0
	for range 25 {
		n := 1 + r.Intn(5)
		var privates, publics []string
		var path []api.Hop
		for range n {
			k := drawn(r.Int63(), 32)
			if len(privates) > 0 && r.Intn(4) == 0 {
				k = privates[0]
			}
			p, _ := curve.Public(k)
			privates, publics = append(privates, k), append(publics, p)
			path = append(path, on(r.Intn(32), r.Intn(4097)))
		}
		last := []api.Hop{home(r.Intn(64), r.Intn(4097), drawn(r.Int63(), 16)), loop(drawn(r.Int63(), 16)), drop()}
		path[n-1] = last[r.Intn(3)]
		h, keys := made(t, drawn(r.Int63(), 32), publics, path...)
		for i := range n {
			hop, next, k, e := head.Peel(privates[i], h)
			if e != api.OK || hop != path[i] || k != keys[i] {
				t.Fatalf("the hop %d of %d: %+v, error %d; want %+v", i, n, hop, e, path[i])
			}
			if i < n-1 && len(next) != 248 || i == n-1 && next != "" {
				t.Fatalf("the hop %d of %d: %d bytes go on", i, n, len(next))
			}
			h = next
			tags[k.Tag] = true
			many++
		}
	}
	if len(tags) != many {
		t.Errorf("%d replay tags of %d hops", len(tags), many)
	}
}

// TestChangedByte turns each byte of the mac and of the list, at the first hop, in between, and at the last one.
func TestChangedByte(t *testing.T) {
	for _, n := range []int{1, 3, 5} {
		h, _ := made(t, seed(), points(n), append(onward(n-1), home(9, 8, id))...)
		for i := range n {
			if i == 0 || i == n/2 || i == n-1 {
				changed(t, fmt.Sprintf("the hop %d of %d", i, n), private(i), h)
			}
			_, h, _, _ = head.Peel(private(i), h)
		}
	}
}

func changed(t *testing.T, what, private, h string) {
	t.Helper()
	if _, _, _, e := head.Peel(private, h); e != api.OK {
		t.Fatalf("%s: error %d", what, e)
	}
	for at := 32; at < 248; at++ {
		for _, by := range []byte{1, 0x80, 0xff} {
			notPeeled(t, fmt.Sprintf("%s, the byte %d xor %d", what, at, by), api.ErrMac, private, turned(h, at, by))
		}
	}
}

// TestChangedOtherwise: pieces that change places, or are another header's.
func TestChangedOtherwise(t *testing.T) {
	h, _ := made(t, seed(), points(2), on(1, 2), drop())
	other, _ := made(t, seed(), points(2), on(1, 3), drop())
	for what, s := range map[string]string{
		"another list":             h[:48] + other[48:],
		"another mac":              h[:32] + other[32:48] + h[48:],
		"no mac":                   h[:32] + zeros(16) + h[48:],
		"no list":                  h[:48] + zeros(200),
		"the list turned":          h[:48] + h[49:] + h[48:49],
		"two bytes by the same":    turned(turned(h, 32, 0x55), 33, 0x55),
		"two by what adds up to 0": turned(turned(h, 32, 0x80), 47, 0x80),
		"the mac's first half":     h[:32] + h[32:40] + zeros(8) + h[48:],
		"the mac's second half":    h[:32] + zeros(8) + h[40:],
	} {
		notPeeled(t, what, api.ErrMac, private(0), s)
	}
}

// The rules that hold everywhere.

// TestListsAreLeftAlone: what is handed in stays, and what lies behind it is neither read nor written.
func TestListsAreLeftAlone(t *testing.T) {
	publics := append(points(5), "no point", zeros(32))
	path := append(onward(2), drop(), api.Hop{Kind: 9}, on(32, 0))
	keptPoints, keptPath := slices.Clone(publics), slices.Clone(path)
	h, keys := made(t, seed(), publics[:3], path[:3]...)
	again, keysAgain := made(t, seed(), slices.Clip(slices.Clone(publics[:3])), slices.Clip(slices.Clone(path[:3]))...)
	if h != again || !slices.Equal(keys, keysAgain) {
		t.Error("what lies behind a list's length is read")
	}
	for _, refused := range []int{1, 2, 4, 5} {
		head.Make(seed(), publics[:refused], path[:3]...)
		head.Make(seed(), publics[:refused], path[:refused]...)
	}
	head.Make(seed(), publics[4:7], path[:3]...)
	if !slices.Equal(publics, keptPoints) || !slices.Equal(path, keptPath) {
		t.Error("a list that was handed in is another one now")
	}
}

// TestAnswersAreNew: the keys of one call are no other's, their spare room too.
func TestAnswersAreNew(t *testing.T) {
	path := append(onward(2), drop())
	h, keys := made(t, seed(), points(3), path...)
	kept := slices.Clone(keys)
	other, others := made(t, seed(), points(3), path...)
	spare := others[:cap(others)]
	for i := range spare {
		spare[i] = api.Keys{Flow: "changed"}
	}
	last, lasts := made(t, seed(), points(3), path...)
	if h != other || h != last || !slices.Equal(keys, kept) || !slices.Equal(lasts, kept) {
		t.Error("the same call tells another thing, or shares its keys")
	}
}

func TestNoCallPanics(t *testing.T) {
	r := rand.New(rand.NewSource(84))
	for n := range 300 {
		s := drawn(r.Int63(), n)
		head.Of(s)
		head.Peel(s, s)
		head.Peel(private(0), s)
		head.Make(s, []string{s}, drop())
		head.Make(s, slices.Repeat([]string{s}, n), slices.Repeat([]api.Hop{drop()}, n)...)
		head.Make(seed(), slices.Repeat([]string{s}, n%7), append(onward(n%6), drop())...)
		head.Make(s, nil, api.Hop{Kind: n, Node: -n, User: n, Delay: -n, Id: s})
	}
}

// TestCallsDoNotTouch: calls at the same time do not touch each other.
func TestCallsDoNotTouch(t *testing.T) {
	var wait sync.WaitGroup
	told := make([]string, 8)
	for i := range told {
		n := 1 + i%5
		path := append(onward(n-1), loop(id))
		want := planned(seed(), points(n), path)
		header := want.header(0)
		wait.Add(1)
		go func() {
			defer wait.Done()
			for range 3 {
				h, keys, e := head.Make(seed(), points(n), path...)
				hop, _, k, f := head.Peel(private(0), header)
				if h != header || e != api.OK || !slices.Equal(keys, want.keys) || hop != path[0] || k != want.keys[0] || f != api.OK {
					told[i] = fmt.Sprintf("%d hops: errors %d %d", n, e, f)
				}
			}
		}()
	}
	wait.Wait()
	for _, s := range told {
		if s != "" {
			t.Error(s)
		}
	}
}
