package curve

import "dovecote/field"

const (
	topBit = 254 // a clamped scalar has none above it
	factor = 121665
)

// fraction is what both points of the ladder have in common: a u as x over z, so that nothing is divided ahead of the end.
type fraction struct{ x, z string }

func (f fraction) sum() string { return add(f.x, f.z) }

func (f fraction) difference() string { return sub(f.x, f.z) }

// quotient is x over z as an element; the inverse of 0 is 0, so where z is 0 this is 0.
func (f fraction) quotient() string { return mul(f.x, inverse(f.z)) }

// lower is the ladder's first point (the document's x2 and z2).
type lower struct{ fraction }

// upper is its second (x3 and z3). It stands one u further than the first, and has that u beside it: this one does not change places.
type upper struct {
	fraction
	u string
}

// climb is the product of a clamped scalar and the element u.
func climb(k, u string) string {
	low := lower{fraction{small(1), small(0)}}
	high := upper{fraction{u, small(1)}, u}
	var crossed byte
	for t := topBit; t >= 0; t-- {
		bit := k[t/8] >> (t % 8) & 1
		if crossed != bit {
			low.fraction, high.fraction = high.fraction, low.fraction
		}
		crossed = bit
		low, high = step(low, high)
	}
	if crossed == 1 {
		low.fraction, high.fraction = high.fraction, low.fraction
	}
	return low.quotient()
}

// step doubles the first point and adds both; its names are the document's (A, AA, B, BB, E, DA, CB).
func step(low lower, high upper) (lower, upper) {
	a, b := low.sum(), low.difference()
	aa, bb := mul(a, a), mul(b, b)
	e := sub(aa, bb)
	da, cb := mul(high.difference(), a), mul(high.sum(), b)
	plus, minus := add(da, cb), sub(da, cb)
	high.x, high.z = mul(plus, plus), mul(high.u, minus, minus)
	low.x, low.z = mul(aa, bb), mul(e, add(aa, mul(small(factor), e)))
	return low, high
}

// What follows passes field's errors over: it is given nothing here but elements that field itself answered, and numbers and lengths that it takes.

// element is the point's u modulo the prime, its highest bit passed over.
func element(u string) string {
	b := []byte(u)
	b[long-1] &= 0x7f
	s, _ := field.Reduce(string(b))
	return s
}

func small(n int) string {
	s, _ := field.Small(n)
	return s
}

func add(a, b string) string {
	s, _ := field.Add(a, b)
	return s
}

func sub(a, b string) string {
	s, _ := field.Sub(a, b)
	return s
}

func mul(l ...string) string {
	s, _ := field.Mul(l...)
	return s
}

func inverse(a string) string {
	s, _ := field.Inv(a)
	return s
}
