package stream

import "math/bits"

const (
	many      = 16       // words of a block
	long      = 4 * many // its bytes
	keyAt     = 4        // where the key's words begin
	counterAt = 12       // where the counter is
	nonceAt   = 13       // where the nonce's words begin
)

// words are those of one block. They are copied whole: what is mixed is added to what it was at first.
type words [many]uint32

func begin(key, nonce string, counter uint32) words {
	w := words{0x61707865, 0x3320646e, 0x79622d32, 0x6b206574}
	for i := range keyLong / 4 {
		w[keyAt+i] = word(key[4*i:])
	}
	w[counterAt] = counter
	for i := range nonceLong / 4 {
		w[nonceAt+i] = word(nonce[4*i:])
	}
	return w
}

// word is that of the first four bytes, the lowest one first.
func word(s string) uint32 {
	return uint32(s[0]) | uint32(s[1])<<8 | uint32(s[2])<<16 | uint32(s[3])<<24
}

// mixed has columns and then diagonals, ten times.
func (w words) mixed() words {
	for range 10 {
		w.quarter(0, 4, 8, 12)
		w.quarter(1, 5, 9, 13)
		w.quarter(2, 6, 10, 14)
		w.quarter(3, 7, 11, 15)
		w.quarter(0, 5, 10, 15)
		w.quarter(1, 6, 11, 12)
		w.quarter(2, 7, 8, 13)
		w.quarter(3, 4, 9, 14)
	}
	return w
}

// quarter is the quarter round of the words at these places; its names are the document's.
func (w *words) quarter(i, j, k, l int) {
	a, b, c, d := w[i], w[j], w[k], w[l]
	a += b
	d = bits.RotateLeft32(d^a, 16)
	c += d
	b = bits.RotateLeft32(b^c, 12)
	a += b
	d = bits.RotateLeft32(d^a, 8)
	c += d
	b = bits.RotateLeft32(b^c, 7)
	w[i], w[j], w[k], w[l] = a, b, c, d
}

// bytes is the block that the words make.
func (w words) bytes() [long]byte {
	var b [long]byte
	for i, m := range w.mixed() {
		m += w[i]
		b[4*i], b[4*i+1], b[4*i+2], b[4*i+3] = byte(m), byte(m>>8), byte(m>>16), byte(m>>24)
	}
	return b
}

// xor changes b by the stream from these words on. It counts in a copy of its own, and the counter goes round by itself, as a word does.
func (w words) xor(b []byte) {
	for len(b) > 0 {
		block := w.bytes()
		n := min(long, len(b))
		for i := range n {
			b[i] ^= block[i]
		}
		b = b[n:]
		w[counterAt]++
	}
}
