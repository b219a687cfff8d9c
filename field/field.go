// Package field is layer 1: numbers modulo the prime 2^255 - 19, written as 32 bytes, the lowest first (see shared/doc/01-field.md).
package field

import "dovecote/api"

const (
	long     = 32  // bytes of an element
	mostWide = 64  // bytes that Reduce takes
	mostList = 100 // elements that a sum or a product takes
	mostTime = 300 // squarings in one call
	mostInt  = 1<<31 - 1
)

// Check tells whether a is an element.
func Check(a string) api.Errno {
	if len(a) != long {
		return api.ErrForm
	}
	if !below(load(a)) {
		return api.ErrRange
	}
	return api.OK
}

// Small is the element of a number that is not negative and has at most 31 bits.
func Small(n int) (string, api.Errno) {
	if n < 0 || n > mostInt {
		return "", api.ErrRange
	}
	return store(limbs{uint64(n)}), api.OK
}

// Reduce is the element that is the same as b's number modulo the prime.
func Reduce(b string) (string, api.Errno) {
	if len(b) > mostWide {
		return "", api.ErrLong
	}
	return store(fold(loadWide(b))), api.OK
}

// Add is the sum of all that it is given; of nothing 0.
func Add(l ...string) (string, api.Errno) {
	if e := checkList(l...); e != api.OK {
		return "", e
	}
	var s limbs
	for _, a := range l {
		s = add(s, load(a))
	}
	return store(s), api.OK
}

// Mul is the product of all that it is given; of nothing 1.
func Mul(l ...string) (string, api.Errno) {
	if e := checkList(l...); e != api.OK {
		return "", e
	}
	if len(l) == 0 {
		return store(limbs{1}), api.OK
	}
	// It begins with the first element, not with 1: most products have two, and one multiplication is enough there.
	s := load(l[0])
	for _, a := range l[1:] {
		s = mul(s, load(a))
	}
	return store(s), api.OK
}

// Sub is a less b.
func Sub(a, b string) (string, api.Errno) {
	if e := checkList(a, b); e != api.OK {
		return "", e
	}
	return store(sub(load(a), load(b))), api.OK
}

// Inv is what a is multiplied by to make 1; of 0 it is 0.
func Inv(a string) (string, api.Errno) {
	if e := Check(a); e != api.OK {
		return "", e
	}
	return store(invert(load(a))), api.OK
}

// Square is a, squared that many times.
func Square(a string, times int) (string, api.Errno) {
	if e := Check(a); e != api.OK {
		return "", e
	}
	if times < 0 || times > mostTime {
		return "", api.ErrRange
	}
	s := load(a)
	for range times {
		s = mul(s, s)
	}
	return store(s), api.OK
}

// checkList looks at every element ahead of the list's length: an element that may not be is answered first, however far back it stands.
func checkList(l ...string) api.Errno {
	for _, a := range l {
		if e := Check(a); e != api.OK {
			return e
		}
	}
	if len(l) > mostList {
		return api.ErrLong
	}
	return api.OK
}
