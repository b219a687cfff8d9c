package curve_test

import (
	"crypto/ecdh"
	"encoding/hex"
	"math/big"
	"math/rand"
	"slices"
	"strings"
	"testing"

	"dovecote/api"
	"dovecote/curve"
)

// digits reads hexadecimal digits.
func digits(s string) string {
	b, err := hex.DecodeString(s)
	if err != nil {
		panic(err)
	}
	return string(b)
}

// power is 2^k + more, as 32 bytes, the lowest first.
func power(k uint, more int64) string {
	n := new(big.Int).Lsh(big.NewInt(1), k)
	return text(n.Add(n, big.NewInt(more)))
}

func text(n *big.Int) string {
	b := n.FillBytes(make([]byte, 32))
	slices.Reverse(b)
	return string(b)
}

// prime is 2^255 - 19 + more.
func prime(more int64) string { return power(255, more-19) }

func small(n int64) string { return text(big.NewInt(n)) }

// flip changes one bit of a text.
func flip(s string, bit int) string {
	b := []byte(s)
	b[bit/8] ^= 1 << (bit % 8)
	return string(b)
}

// drawn are so many texts of 32 bytes, the same ones in each run.
func drawn(seed int64, many int) []string {
	r := rand.New(rand.NewSource(seed))
	var l []string
	for range many {
		b := make([]byte, 32)
		r.Read(b)
		l = append(l, string(b))
	}
	return l
}

// weak are all points of small order below 2^255: the two whose order is 8 have no shorter name.
func weak() []string {
	return []string{
		small(0), small(1), prime(-1), prime(0), prime(1),
		digits("e0eb7a7c3b41b8ae1656e3faf19fc46ada098deb9c32b1fd866205165f49b800"),
		digits("5f9c95bca3508c24b1d0b1559c83ef5b04445cc4581c8e86d8224eddd09f1157"),
	}
}

// edges are points near 0, the prime, 2^255 and what is of small order, each with its highest bit set and not.
func edges() []string {
	l := weak()
	for _, n := range []int64{2, 3, 9, 18, 19, 20, 121665} {
		l = append(l, small(n), prime(-n))
	}
	l = append(l, prime(2), prime(9), power(255, -2), power(255, -1), power(254, -1), power(254, 0), power(254, 1))
	for _, u := range weak()[5:] {
		l = append(l, flip(u, 0), "\xcd"+u[1:], "\x4c"+u[1:])
	}
	for _, u := range l {
		l = append(l, flip(u, 255))
	}
	return l
}

// scalars are ordinary ones and those at the edges of clamping.
func scalars() []string {
	return append(drawn(1, 4), small(0), small(1), small(8), strings.Repeat("\xff", 32), power(254, 0), power(255, -8))
}

// wrongs are of lengths that neither a scalar nor a point has.
func wrongs() []string {
	return []string{"", "x", strings.Repeat("\x00", 31), strings.Repeat("\x00", 33), small(9)[:31], small(9) + "\x00", strings.Repeat("\xff", 64)}
}

// library is the product as Go's own library has it; it refuses a product of 0, where this is 0.
func library(t *testing.T, k, u string) string {
	t.Helper()
	private, err := ecdh.X25519().NewPrivateKey([]byte(k))
	if err != nil {
		t.Fatal(err)
	}
	public, err := ecdh.X25519().NewPublicKey([]byte(u))
	if err != nil {
		t.Fatal(err)
	}
	s, err := private.ECDH(public)
	if err != nil {
		return small(0)
	}
	return string(s)
}

// same fails unless a call answered this text and no error.
func same(t *testing.T, what string, want, got string, e api.Errno) {
	t.Helper()
	if e != api.OK || got != want {
		t.Errorf("%s: %x, error %d; want %x", what, got, e, want)
	}
}

// refused fails unless a call answered this error, and nothing beside it.
func refused(t *testing.T, what string, want api.Errno, got string, e api.Errno) {
	t.Helper()
	if e != want || got != "" {
		t.Errorf("%s: %x, error %d; want error %d and an empty text", what, got, e, want)
	}
}

// must is what a call answered without an error.
func must(t *testing.T) func(s string, e api.Errno) string {
	return func(s string, e api.Errno) string {
		t.Helper()
		if e != api.OK {
			t.Fatalf("error %d", e)
		}
		return s
	}
}

// Promise 2.1.

// TestClampBitByBit has each bit alone, and all but each.
func TestClampBitByBit(t *testing.T) {
	none, all := strings.Repeat("\x00", 32), strings.Repeat("\xff", 32)
	low, high := power(254, 0), power(255, -8)
	c, e := curve.Clamp(none)
	same(t, "Clamp of no bits", low, c, e)
	c, e = curve.Clamp(all)
	same(t, "Clamp of all bits", high, c, e)
	for bit := range 256 {
		one, rest := flip(low, bit), flip(high, bit)
		if bit < 3 || bit > 253 {
			one, rest = low, high
		}
		c, e = curve.Clamp(flip(none, bit))
		same(t, "Clamp of one bit", one, c, e)
		c, e = curve.Clamp(flip(all, bit))
		same(t, "Clamp of all bits but one", rest, c, e)
	}
}

func TestClampTwice(t *testing.T) {
	ok := must(t)
	for _, k := range scalars() {
		once := ok(curve.Clamp(k))
		c, e := curve.Clamp(once)
		same(t, "Clamp of what is clamped", once, c, e)
	}
}

func TestExample(t *testing.T) {
	s, e := curve.Times(small(9), small(9))
	same(t, "9 times 9", digits("422c8e7a6227d7bca1350b3e2bb7279f7897b87bb6854b783c60e80311ae3079"), s, e)
}

// TestVectors has those of RFC 7748, section 5.2.
func TestVectors(t *testing.T) {
	for _, v := range [][3]string{
		{"a546e36bf0527c9d3b16154b82465edd62144c0ac1fc5a18506a2244ba449ac4", "e6db6867583030db3594c1a424b15f7c726624ec26b3353b10a903a6d0ab1c4c", "c3da55379de9c6908e94ea4df28d084f32eccf03491c71f754b4075577a28552"},
		{"4b66e9d4d1b4673c5ad22691957d6af5c11b6421e0ea01d42ca4169e7918ba0d", "e5210f12786811d3f4b7959d0538ae2c31dbe7106fc03c3efc4cd549c715a493", "95cbde9476e8907d7aade45cb4b873f88b595a68799fa152e6f8f7647aac7957"},
	} {
		s, e := curve.Times(digits(v[0]), digits(v[1]))
		same(t, "Times", digits(v[2]), s, e)
	}
}

func TestIteratedVector(t *testing.T) {
	k, u := small(9), small(9)
	ok := must(t)
	for range 1000 {
		k, u = ok(curve.Times(k, u)), k
	}
	same(t, "after 1000 rounds", digits("684cf59ba83309552800ef566f2f4d3c1c3887c49360e3875f2eb94d99532c51"), k, api.OK)
}

func TestTimesAsTheLibrary(t *testing.T) {
	for _, k := range scalars() {
		for _, u := range append(edges(), drawn(2, 20)...) {
			s, e := curve.Times(k, u)
			same(t, "Times", library(t, k, u), s, e)
		}
	}
}

// TestHighestBitOfPoint: it is passed over, not taken as 2^255.
func TestHighestBitOfPoint(t *testing.T) {
	ok := must(t)
	k := drawn(3, 1)[0]
	for _, u := range append(edges(), drawn(4, 5)...) {
		s, e := curve.Times(k, flip(u, 255))
		same(t, "Times", ok(curve.Times(k, u)), s, e)
	}
}

// TestPointsAreModuloPrime has all points from the prime to 2^255 - 1.
func TestPointsAreModuloPrime(t *testing.T) {
	ok := must(t)
	k := drawn(5, 1)[0]
	for n := range int64(19) {
		s, e := curve.Times(k, prime(n))
		same(t, "Times", ok(curve.Times(k, small(n))), s, e)
	}
	s, e := curve.Times(k, prime(9))
	same(t, "Times of the base and the prime", ok(curve.Public(k)), s, e)
}

// TestClampedBitsDoNotCount has a scalar with those five bits set in all ways; each other bit counts.
func TestClampedBitsDoNotCount(t *testing.T) {
	ok := must(t)
	k, u := drawn(6, 1)[0], drawn(7, 1)[0]
	want := ok(curve.Times(k, u))
	for ways := range 32 {
		other := k
		for i, bit := range []int{0, 1, 2, 254, 255} {
			if ways>>i&1 == 1 {
				other = flip(other, bit)
			}
		}
		s, e := curve.Times(other, u)
		same(t, "Times", want, s, e)
	}
	for bit := 3; bit < 254; bit++ {
		if s := ok(curve.Times(flip(k, bit), u)); s == want {
			t.Errorf("bit %d of the scalar does not count", bit)
		}
	}
}

func TestTimesOfSmallOrder(t *testing.T) {
	for _, k := range scalars() {
		for _, u := range weak() {
			s, e := curve.Times(k, u)
			same(t, "Times", small(0), s, e)
			s, e = curve.Times(k, flip(u, 255))
			same(t, "Times, the highest bit set", small(0), s, e)
		}
	}
}

func TestPublic(t *testing.T) {
	for _, v := range [][2]string{
		{"77076d0a7318a57d3c16c17251b26645df4c2f87ebc0992ab177fba51db92c2a", "8520f0098930a754748b7ddcb43ef75a0dbf3a0d26381af4eba4a98eaa9b4e6a"},
		{"5dab087e624a8a4b79e17f8b83800ee66f3bb1292618b6fd1c2f8b27ff88e0eb", "de9edb7d7b7dc1b4d35b61c2ece435373f8343c85b78674dadfc7e146f882b4f"},
	} {
		s, e := curve.Public(digits(v[0]))
		same(t, "Public", digits(v[1]), s, e)
	}
	ok := must(t)
	for _, k := range scalars() {
		s, e := curve.Public(k)
		same(t, "Public", ok(curve.Times(k, small(9))), s, e)
		same(t, "Public, as the library", library(t, k, small(9)), s, e)
	}
}

func TestLengthsAreRefused(t *testing.T) {
	for _, w := range wrongs() {
		s, e := curve.Clamp(w)
		refused(t, "Clamp", api.ErrForm, s, e)
		s, e = curve.Public(w)
		refused(t, "Public", api.ErrForm, s, e)
		for _, good := range []string{small(9), small(0), w} {
			s, e = curve.Times(w, good)
			refused(t, "Times, its scalar", api.ErrForm, s, e)
			s, e = curve.Times(good, w)
			refused(t, "Times, its point", api.ErrForm, s, e)
			s, e = curve.Shared(w, good)
			refused(t, "Shared, its scalar", api.ErrForm, s, e)
			s, e = curve.Shared(good, w)
			refused(t, "Shared, its point", api.ErrForm, s, e)
		}
	}
}

// Promise 2.2.

// TestSharedVector has that of RFC 7748, section 6.1.
func TestSharedVector(t *testing.T) {
	alice := digits("77076d0a7318a57d3c16c17251b26645df4c2f87ebc0992ab177fba51db92c2a")
	bob := digits("5dab087e624a8a4b79e17f8b83800ee66f3bb1292618b6fd1c2f8b27ff88e0eb")
	want := digits("4a5d9d5ba4ce2de1728e3bf480350f25e07e21c947d19e3376f09b3c1e161742")
	ok := must(t)
	s, e := curve.Shared(alice, ok(curve.Public(bob)))
	same(t, "Alice's", want, s, e)
	s, e = curve.Shared(bob, ok(curve.Public(alice)))
	same(t, "Bob's", want, s, e)
}

// TestSharedIsTimes: a product of 0 is refused, and no other one, near as its point may be.
func TestSharedIsTimes(t *testing.T) {
	ok := must(t)
	for _, k := range scalars() {
		for _, u := range append(edges(), drawn(8, 5)...) {
			s, e := curve.Shared(k, u)
			if p := ok(curve.Times(k, u)); p != small(0) {
				same(t, "Shared", p, s, e)
			} else {
				refused(t, "Shared", api.ErrWeak, s, e)
			}
		}
	}
}

func TestSharedRefusesSmallOrder(t *testing.T) {
	for _, k := range scalars() {
		for _, u := range weak() {
			s, e := curve.Shared(k, u)
			refused(t, "Shared", api.ErrWeak, s, e)
			s, e = curve.Shared(k, flip(u, 255))
			refused(t, "Shared, the highest bit set", api.ErrWeak, s, e)
		}
	}
}

// TestChainOfNone: nothing is multiplied, so the point is neither reduced nor weak.
func TestChainOfNone(t *testing.T) {
	for _, u := range append(edges(), drawn(9, 5)...) {
		s, e := curve.Chain(u)
		same(t, "Chain", u, s, e)
		s, e = curve.Chain(u, []string{}...)
		same(t, "Chain of an empty list", u, s, e)
	}
}

func TestChainIsTimesByTimes(t *testing.T) {
	ok := must(t)
	ks := drawn(10, 16)
	for _, u := range []string{small(9), drawn(11, 1)[0], prime(9), power(256, -1)} {
		want := u
		for i, k := range ks {
			want = ok(curve.Times(k, want))
			s, e := curve.Chain(u, ks[:i+1]...)
			same(t, "Chain", want, s, e)
		}
	}
}

func TestChainTooLong(t *testing.T) {
	for _, many := range []int{17, 18, 100} {
		for _, u := range []string{small(9), small(0)} {
			s, e := curve.Chain(u, drawn(12, many)...)
			refused(t, "Chain", api.ErrLong, s, e)
		}
	}
}

// TestChainRefusesForm has a wrong length at each place: it is answered ahead of ErrLong and of ErrWeak.
func TestChainRefusesForm(t *testing.T) {
	for _, w := range wrongs() {
		for _, many := range []int{0, 1, 2, 16, 17, 40} {
			s, e := curve.Chain(w, drawn(13, many)...)
			refused(t, "Chain, its point", api.ErrForm, s, e)
			for at := range many {
				ks := drawn(13, many)
				ks[at] = w
				for _, u := range []string{small(9), small(0)} {
					s, e = curve.Chain(u, ks...)
					refused(t, "Chain, a scalar", api.ErrForm, s, e)
				}
			}
		}
	}
}

// TestChainRefusesWeak has a product that is 0 as the only one, and ahead of others.
func TestChainRefusesWeak(t *testing.T) {
	for _, u := range weak() {
		for _, many := range []int{1, 2, 3, 16} {
			s, e := curve.Chain(u, drawn(14, many)...)
			refused(t, "Chain", api.ErrWeak, s, e)
			s, e = curve.Chain(flip(u, 255), drawn(14, many)...)
			refused(t, "Chain, the highest bit set", api.ErrWeak, s, e)
		}
	}
}

// Promise 2.3.

func TestWhoeverIsFirst(t *testing.T) {
	ok := must(t)
	l := drawn(15, 24)
	for i := 0; i < len(l); i += 3 {
		a, b, u := l[i], l[i+1], l[i+2]
		for _, u := range []string{u, small(9), flip(u, 255), prime(9)} {
			want := ok(curve.Times(a, ok(curve.Times(b, u))))
			s, e := curve.Times(b, ok(curve.Times(a, u)))
			same(t, "the other one first", want, s, e)
			s, e = curve.Chain(u, a, b)
			same(t, "Chain", want, s, e)
			s, e = curve.Chain(u, b, a)
			same(t, "Chain the other way", want, s, e)
		}
		want := ok(curve.Shared(a, ok(curve.Public(b))))
		s, e := curve.Shared(b, ok(curve.Public(a)))
		same(t, "the shared secret", want, s, e)
	}
}

func TestChainsInAnyOrder(t *testing.T) {
	ok := must(t)
	r := rand.New(rand.NewSource(16))
	ks, u := drawn(17, 16), drawn(18, 1)[0]
	want := ok(curve.Chain(u, ks...))
	for range 5 {
		r.Shuffle(len(ks), func(i, j int) { ks[i], ks[j] = ks[j], ks[i] })
		s, e := curve.Chain(u, ks...)
		same(t, "Chain in another order", want, s, e)
	}
}

// The rules that hold everywhere.

// TestListIsLeftAlone: a list is neither changed nor read behind its length.
func TestListIsLeftAlone(t *testing.T) {
	ok := must(t)
	ks := drawn(19, 20)
	ks[3] = "no scalar"
	before := slices.Clone(ks)
	want := ok(curve.Chain(small(9), ks[:3]...))
	s, e := curve.Chain(small(9), ks[:3]...)
	same(t, "the same call once more", want, s, e)
	if !slices.Equal(ks, before) {
		t.Error("a list that was handed in is another one now")
	}
}

func TestNoCallPanics(t *testing.T) {
	r := rand.New(rand.NewSource(20))
	for long := range 70 {
		b := make([]byte, long)
		r.Read(b)
		s := string(b)
		curve.Clamp(s)
		curve.Public(s)
		curve.Times(s, s)
		curve.Shared(s, s)
		curve.Chain(s)
		curve.Chain(s, s)
		curve.Chain(s, slices.Repeat([]string{s}, long)...)
	}
}
