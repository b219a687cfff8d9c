package field_test

import (
	"math"
	"math/big"
	"math/rand"
	"slices"
	"strings"
	"testing"

	"dovecote/api"
	"dovecote/field"
)

// prime is 2^255 - 19, by the library's own numbers.
func prime() *big.Int { return power(255, -19) }

// power is 2^k + more.
func power(k uint, more int64) *big.Int {
	n := new(big.Int).Lsh(big.NewInt(1), k)
	return n.Add(n, big.NewInt(more))
}

// text writes a number from 0 to 2^256 - 1 as 32 bytes, the lowest first.
func text(n *big.Int) string {
	b := n.FillBytes(make([]byte, 32))
	slices.Reverse(b)
	return string(b)
}

// element writes any number, modulo the prime.
func element(n *big.Int) string { return text(new(big.Int).Mod(n, prime())) }

// number reads bytes, the lowest first.
func number(s string) *big.Int {
	b := []byte(s)
	slices.Reverse(b)
	return new(big.Int).SetBytes(b)
}

func small(n int64) string { return text(big.NewInt(n)) }

// edges are elements at which words carry, borrow or come to the prime.
func edges() []string {
	l := []string{small(0), small(1), small(2), small(18), small(19), small(20), small(121665)}
	for _, k := range []uint{31, 32, 63, 64, 127, 128, 191, 192, 254} {
		l = append(l, text(power(k, -1)), text(power(k, 0)), text(power(k, 1)))
	}
	for _, less := range []int64{1, 2, 18, 19, 20, 38} {
		l = append(l, text(new(big.Int).Sub(prime(), big.NewInt(less))))
	}
	half := new(big.Int).Rsh(prime(), 1)
	l = append(l, text(half), text(new(big.Int).Add(half, big.NewInt(1))))
	return l
}

// drawn are so many elements, the same ones in each run.
func drawn(seed int64, many int) []string {
	r := rand.New(rand.NewSource(seed))
	var l []string
	for range many {
		l = append(l, element(new(big.Int).Rand(r, power(256, 0))))
	}
	return l
}

// same fails unless a call answered this text and no error.
func same(t *testing.T, what string, want, got string, e api.Errno) {
	t.Helper()
	if e != api.OK || got != want {
		t.Errorf("%s: %x, error %d; want %x", what, got, e, want)
	}
}

// refused fails unless a call answered this error, and nothing beside it.
func refused(t *testing.T, what string, want api.Errno, got string, e api.Errno) {
	t.Helper()
	if e != want || got != "" {
		t.Errorf("%s: %x, error %d; want error %d and an empty text", what, got, e, want)
	}
}

// must is what a call answered without an error.
func must(t *testing.T) func(s string, e api.Errno) string {
	return func(s string, e api.Errno) string {
		t.Helper()
		if e != api.OK {
			t.Fatalf("error %d", e)
		}
		return s
	}
}

// wrong is a text that is no element, and what Check says of it.
type wrong struct {
	text  string
	errno api.Errno
}

func wrongs() []wrong {
	return []wrong{
		{"", api.ErrForm},
		{strings.Repeat("\x00", 31), api.ErrForm},
		{strings.Repeat("\x00", 33), api.ErrForm},
		{text(prime())[:31], api.ErrForm},
		{text(prime()) + "\x00", api.ErrForm},
		{strings.Repeat("\xff", 64), api.ErrForm},
		{text(prime()), api.ErrRange},
		{text(power(255, -18)), api.ErrRange},
		{text(power(255, -1)), api.ErrRange},
		{text(power(255, 0)), api.ErrRange},
		{text(power(255, 1)), api.ErrRange},
		{text(power(256, -1)), api.ErrRange},
	}
}

// Promise 1.1.

func TestCheckRefuses(t *testing.T) {
	for i, w := range wrongs() {
		if e := field.Check(w.text); e != w.errno {
			t.Errorf("%d: Check(%x) is %d, want %d", i, w.text, e, w.errno)
		}
	}
}

func TestCheckTakesElements(t *testing.T) {
	for _, a := range append(edges(), drawn(1, 100)...) {
		if e := field.Check(a); e != api.OK {
			t.Errorf("Check(%x) is %d", a, e)
		}
	}
}

// TestCheckByEachByte goes a byte up and down from the prime: every byte of it counts.
func TestCheckByEachByte(t *testing.T) {
	for i := range uint(32) {
		step := power(8*i, 0)
		down := new(big.Int).Sub(prime(), step)
		if e := field.Check(text(down)); e != api.OK {
			t.Errorf("byte %d down: %d", i, e)
		}
		up := new(big.Int).Add(prime(), step)
		if e := field.Check(text(up)); e != api.ErrRange {
			t.Errorf("byte %d up: %d", i, e)
		}
	}
}

func TestSmall(t *testing.T) {
	for _, n := range []int{0, 1, 2, 255, 256, 65536, 1<<31 - 2, 1<<31 - 1} {
		s, e := field.Small(n)
		same(t, "Small", small(int64(n)), s, e)
	}
	for _, n := range []int{-1, -2, 1 << 31, 1<<31 + 1, 1 << 32, math.MaxInt, math.MinInt} {
		s, e := field.Small(n)
		refused(t, "Small", api.ErrRange, s, e)
	}
}

func TestReduceEveryLength(t *testing.T) {
	r := rand.New(rand.NewSource(2))
	for long := range 65 {
		some := make([]byte, long)
		r.Read(some)
		high := strings.Repeat("\xff", long)
		one := strings.Repeat("\x00", long) + "\x01"
		for _, b := range []string{string(some), high, one[1:]} {
			s, e := field.Reduce(b)
			same(t, "Reduce", element(number(b)), s, e)
		}
	}
}

func TestReduceNearMultiples(t *testing.T) {
	for _, times := range []*big.Int{big.NewInt(1), big.NewInt(2), power(255, 0), power(256, 0), power(257, 0)} {
		for more := int64(-2); more <= 2; more++ {
			n := new(big.Int).Mul(prime(), times)
			n.Add(n, big.NewInt(more))
			b := n.FillBytes(make([]byte, 64))
			slices.Reverse(b)
			s, e := field.Reduce(string(b))
			same(t, "Reduce", element(n), s, e)
		}
	}
}

func TestReduceExamples(t *testing.T) {
	s, e := field.Reduce("")
	same(t, "of no bytes", small(0), s, e)
	s, e = field.Reduce(strings.Repeat("\xff", 32))
	same(t, "of 2^256 - 1", small(37), s, e)
	s, e = field.Reduce(text(prime()))
	same(t, "of p", small(0), s, e)
	s, e = field.Reduce(text(power(255, -18)))
	same(t, "of p + 1", small(1), s, e)
}

func TestReduceTooLong(t *testing.T) {
	for _, long := range []int{65, 66, 128, 1 << 16} {
		s, e := field.Reduce(strings.Repeat("\x00", long))
		refused(t, "Reduce", api.ErrLong, s, e)
	}
}

// Promise 1.2.

func TestTwoByTwo(t *testing.T) {
	l := append(edges(), drawn(3, 40)...)
	for _, a := range l {
		for _, b := range l {
			x, y := number(a), number(b)
			s, e := field.Add(a, b)
			same(t, "Add", element(new(big.Int).Add(x, y)), s, e)
			s, e = field.Sub(a, b)
			same(t, "Sub", element(new(big.Int).Sub(x, y)), s, e)
			s, e = field.Mul(a, b)
			same(t, "Mul", element(new(big.Int).Mul(x, y)), s, e)
		}
	}
}

func TestLists(t *testing.T) {
	lists := [][]string{nil, {}, {small(7)}, edges(), drawn(4, 1), drawn(4, 3), drawn(4, 99), drawn(4, 100)}
	high := slices.Repeat([]string{text(power(255, -20))}, 100)
	for _, l := range append(lists, high) {
		sum, product := big.NewInt(0), big.NewInt(1)
		for _, a := range l {
			sum.Add(sum, number(a))
			product.Mod(product.Mul(product, number(a)), prime())
		}
		s, e := field.Add(l...)
		same(t, "Add", element(sum), s, e)
		s, e = field.Mul(l...)
		same(t, "Mul", element(product), s, e)
	}
}

func TestOfNone(t *testing.T) {
	s, e := field.Add()
	same(t, "Add of none", small(0), s, e)
	s, e = field.Mul()
	same(t, "Mul of none", small(1), s, e)
}

func TestListsTooLong(t *testing.T) {
	for _, many := range []int{101, 102, 1000} {
		l := slices.Repeat([]string{small(1)}, many)
		s, e := field.Add(l...)
		refused(t, "Add", api.ErrLong, s, e)
		s, e = field.Mul(l...)
		refused(t, "Mul", api.ErrLong, s, e)
	}
}

// TestListsRefuse has a wrong element at each place: it is answered ahead of ErrLong, and ahead of a wrong one of the other kind behind it.
func TestListsRefuse(t *testing.T) {
	for _, many := range []int{1, 2, 100, 101, 150} {
		for _, at := range []int{0, many / 2, many - 1} {
			for _, w := range wrongs() {
				l := slices.Repeat([]string{small(3)}, many)
				l[at] = w.text
				if at < many-1 {
					l[many-1] = other(w).text
				}
				s, e := field.Add(l...)
				refused(t, "Add", w.errno, s, e)
				s, e = field.Mul(l...)
				refused(t, "Mul", w.errno, s, e)
			}
		}
	}
}

// other is wrong in another way.
func other(w wrong) wrong {
	if w.errno == api.ErrForm {
		return wrong{text(prime()), api.ErrRange}
	}
	return wrong{"", api.ErrForm}
}

func TestSubRefuses(t *testing.T) {
	for _, w := range wrongs() {
		s, e := field.Sub(w.text, small(1))
		refused(t, "Sub, its first", w.errno, s, e)
		s, e = field.Sub(small(1), w.text)
		refused(t, "Sub, its second", w.errno, s, e)
		s, e = field.Sub(w.text, other(w).text)
		refused(t, "Sub, both", w.errno, s, e)
	}
}

func TestInv(t *testing.T) {
	s, e := field.Inv(small(0))
	same(t, "Inv of 0", small(0), s, e)
	s, e = field.Inv(small(1))
	same(t, "Inv of 1", small(1), s, e)
	for _, a := range append(edges(), drawn(5, 50)...) {
		if a == small(0) {
			continue
		}
		s, e := field.Inv(a)
		same(t, "Inv", element(new(big.Int).ModInverse(number(a), prime())), s, e)
	}
	for _, w := range wrongs() {
		s, e := field.Inv(w.text)
		refused(t, "Inv", w.errno, s, e)
	}
}

func TestSquare(t *testing.T) {
	for _, a := range append(edges(), drawn(6, 5)...) {
		for _, times := range []int{0, 1, 2, 3, 10, 254, 255, 299, 300} {
			s, e := field.Square(a, times)
			exponent := power(uint(times), 0)
			same(t, "Square", element(new(big.Int).Exp(number(a), exponent, prime())), s, e)
		}
	}
}

func TestSquareRefuses(t *testing.T) {
	for _, times := range []int{-1, -2, 301, 302, math.MaxInt, math.MinInt} {
		s, e := field.Square(small(2), times)
		refused(t, "Square", api.ErrRange, s, e)
		s, e = field.Square("", times)
		refused(t, "Square of a text that is too short", api.ErrForm, s, e)
	}
	for _, w := range wrongs() {
		s, e := field.Square(w.text, 0)
		refused(t, "Square", w.errno, s, e)
	}
}

func TestExamples(t *testing.T) {
	s, e := field.Add(text(power(255, -20)), small(2))
	same(t, "p - 1 plus 2", small(1), s, e)
	half, e := field.Inv(small(2))
	same(t, "the inverse of 2", text(power(254, -9)), half, e)
	s, e = field.Mul(small(2), half)
	same(t, "2 times its inverse", small(1), s, e)
}

// Promise 1.3.

func TestOrderDoesNotMatter(t *testing.T) {
	r := rand.New(rand.NewSource(7))
	l := append(edges(), drawn(8, 20)...)
	ok := must(t)
	sum, product := ok(field.Add(l...)), ok(field.Mul(l[1:]...))
	for range 20 {
		r.Shuffle(len(l)-1, func(i, j int) { l[i+1], l[j+1] = l[j+1], l[i+1] })
		s, e := field.Add(l...)
		same(t, "the sum in another order", sum, s, e)
		s, e = field.Mul(l[1:]...)
		same(t, "the product in another order", product, s, e)
		cut := 1 + r.Intn(len(l)-1)
		s, e = field.Add(ok(field.Add(l[:cut]...)), ok(field.Add(l[cut:]...)))
		same(t, "the sum of two sums", sum, s, e)
		s, e = field.Mul(ok(field.Mul(l[1:cut]...)), ok(field.Mul(l[cut:]...)))
		same(t, "the product of two products", product, s, e)
	}
}

func TestFieldLaws(t *testing.T) {
	l := append(edges(), drawn(9, 60)...)
	ok := must(t)
	for i, a := range l {
		b, c := l[(i*7+3)%len(l)], l[(i*13+5)%len(l)]
		s, e := field.Mul(a, ok(field.Add(b, c)))
		same(t, "a product goes over a sum", ok(field.Add(ok(field.Mul(a, b)), ok(field.Mul(a, c)))), s, e)
		s, e = field.Add(ok(field.Sub(a, b)), b)
		same(t, "subtracted and added again", a, s, e)
		s, e = field.Sub(ok(field.Add(a, b)), b)
		same(t, "added and subtracted again", a, s, e)
		s, e = field.Add(a, small(0))
		same(t, "plus 0", a, s, e)
		s, e = field.Mul(a, small(1))
		same(t, "times 1", a, s, e)
		s, e = field.Square(a, 1)
		same(t, "squared once", ok(field.Mul(a, a)), s, e)
		if a != small(0) {
			s, e = field.Mul(a, ok(field.Inv(a)))
			same(t, "times its inverse", small(1), s, e)
		}
	}
}

// The rules that hold everywhere.

func TestListsAreNotChanged(t *testing.T) {
	l := drawn(10, 10)
	before := slices.Clone(l)
	ok := must(t)
	for range 2 {
		same(t, "the sum of a beginning", ok(field.Add(before[:5]...)), ok(field.Add(l[:5]...)), api.OK)
		same(t, "the product of a beginning", ok(field.Mul(before[:5]...)), ok(field.Mul(l[:5]...)), api.OK)
	}
	if !slices.Equal(l, before) {
		t.Error("a list that was handed in is another one now")
	}
	l[5] = "no element"
	ok(field.Add(l[:5]...))
	ok(field.Mul(l[:5]...))
}

func TestNoCallPanics(t *testing.T) {
	r := rand.New(rand.NewSource(11))
	for long := range 70 {
		b := make([]byte, long)
		r.Read(b)
		s := string(b)
		field.Check(s)
		field.Reduce(s)
		field.Inv(s)
		field.Sub(s, s)
		field.Add(s, s)
		field.Mul(s, s)
		field.Square(s, int(r.Int63())-1<<62)
		field.Small(int(r.Uint64()))
	}
}
