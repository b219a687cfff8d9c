package field

import "math/bits"

// limbs is a number below 2^256, the lowest word first. It is handed on whole, so nobody changes another's number.
type limbs [4]uint64

// double is a number below 2^512, the lowest word first: a product that is not reduced yet.
type double [8]uint64

// The prime's words, the highest first: top, full, full, full - 18.
const (
	top  = 1<<63 - 1
	full = 1<<64 - 1
)

// prime is 2^255 - 19.
func prime() limbs {
	return limbs{full - 18, full, full, top}
}

// load reads 32 bytes.
func load(a string) limbs {
	return limbs{word(a[0:8]), word(a[8:16]), word(a[16:24]), word(a[24:32])}
}

func word(b string) uint64 {
	_ = b[7] // one look at the length is enough for all eight
	return uint64(b[0]) | uint64(b[1])<<8 | uint64(b[2])<<16 | uint64(b[3])<<24 |
		uint64(b[4])<<32 | uint64(b[5])<<40 | uint64(b[6])<<48 | uint64(b[7])<<56
}

// loadWide reads at most 64 bytes; those that are missing are 0.
func loadWide(b string) double {
	var w double
	for i := range len(b) {
		w[i/8] |= uint64(b[i]) << (i % 8 * 8)
	}
	return w
}

// store writes 32 bytes.
func store(l limbs) string {
	b := make([]byte, 0, long)
	for _, w := range l {
		b = append(b, byte(w), byte(w>>8), byte(w>>16), byte(w>>24),
			byte(w>>32), byte(w>>40), byte(w>>48), byte(w>>56))
	}
	return string(b)
}

// sum is a + b modulo 2^256.
func sum(a, b limbs) limbs {
	s0, carry := bits.Add64(a[0], b[0], 0)
	s1, carry := bits.Add64(a[1], b[1], carry)
	s2, carry := bits.Add64(a[2], b[2], carry)
	s3, _ := bits.Add64(a[3], b[3], carry)
	return limbs{s0, s1, s2, s3}
}

// less is a - b modulo 2^256, and whether 2^256 had to be lent for it.
func less(a, b limbs) (d limbs, lent bool) {
	d0, carry := bits.Sub64(a[0], b[0], 0)
	d1, carry := bits.Sub64(a[1], b[1], carry)
	d2, carry := bits.Sub64(a[2], b[2], carry)
	d3, carry := bits.Sub64(a[3], b[3], carry)
	return limbs{d0, d1, d2, d3}, carry == 1
}

// below tells whether l is less than the prime. The highest word nearly always tells it alone.
func below(l limbs) bool {
	return l[3] < top || l[3] == top && (l[2] < full || l[1] < full || l[0] < full-18)
}

// settle is l + high * 2^256 modulo the prime, for a high of at most 38: what is above 2^255, folded down once, leaves less than twice the prime.
func settle(l limbs, high uint64) limbs {
	over := high<<1 | l[3]>>63
	l = sum(limbs{l[0], l[1], l[2], l[3] & top}, limbs{19 * over})
	if below(l) {
		return l
	}
	d, _ := less(l, prime())
	return d
}

// fold is w modulo the prime: 2^256 is 38 there, so the upper half counts 38 times in the lower one.
func fold(w double) limbs {
	var l limbs
	var carry uint64
	for i := range l {
		l[i], carry = step(38, w[i+4], w[i], carry)
	}
	return settle(l, carry)
}

// step is a * b + c + d, its low and its high word: it is never more than two words hold.
func step(a, b, c, d uint64) (low, high uint64) {
	high, low = bits.Mul64(a, b)
	low, carry := bits.Add64(low, c, 0)
	high += carry
	low, carry = bits.Add64(low, d, 0)
	return low, high + carry
}

// add takes elements: their sum stays below 2^256.
func add(a, b limbs) limbs {
	return settle(sum(a, b), 0)
}

// sub takes elements: where a is less than b, the prime stands in for the 2^256 that was lent.
func sub(a, b limbs) limbs {
	d, lent := less(a, b)
	if lent {
		return sum(d, prime())
	}
	return d
}

// mul has a row for each word of a; each row stands a word higher than the one ahead of it.
func mul(a, b limbs) limbs {
	var w double
	for i, x := range a {
		var carry uint64
		for j, y := range b {
			w[i+j], carry = step(x, y, w[i+j], carry)
		}
		w[i+4] = carry
	}
	return fold(w)
}

// invert is a to the power of the prime less 2 (Fermat): the bits of that, from 254 down to 0, are all 1 but those of 4 and 16.
func invert(a limbs) limbs {
	s := limbs{1}
	for i := 254; i >= 0; i-- {
		s = mul(s, s)
		if i != 2 && i != 4 {
			s = mul(s, a)
		}
	}
	return s
}
