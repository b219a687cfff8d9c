package hash

import "math/bits"

const (
	block = 64 // bytes of a block
	own   = 16 // words that a block has of itself
	made  = 64 // words that are made of a block, its own among them
	tail  = 8  // bytes of a number
)

// constants has one word for each word that is made of a block.
var constants = [made]uint32{
	0x428a2f98, 0x71374491, 0xb5c0fbcf, 0xe9b5dba5, 0x3956c25b, 0x59f111f1, 0x923f82a4, 0xab1c5ed5,
	0xd807aa98, 0x12835b01, 0x243185be, 0x550c7dc3, 0x72be5d74, 0x80deb1fe, 0x9bdc06a7, 0xc19bf174,
	0xe49b69c1, 0xefbe4786, 0x0fc19dc6, 0x240ca1cc, 0x2de92c6f, 0x4a7484aa, 0x5cb0a9dc, 0x76f988da,
	0x983e5152, 0xa831c66d, 0xb00327c8, 0xbf597fc7, 0xc6e00bf3, 0xd5a79147, 0x06ca6351, 0x14292967,
	0x27b70a85, 0x2e1b2138, 0x4d2c6dfc, 0x53380d13, 0x650a7354, 0x766a0abb, 0x81c2c92e, 0x92722c85,
	0xa2bfe8a1, 0xa81a664b, 0xc24b8b70, 0xc76c51a3, 0xd192e819, 0xd6990624, 0xf40e3585, 0x106aa070,
	0x19a4c116, 0x1e376c08, 0x2748774c, 0x34b0bcb5, 0x391c0cb3, 0x4ed8aa4a, 0x5b9cca4f, 0x682e6ff3,
	0x748f82ee, 0x78a5636f, 0x84c87814, 0x8cc70208, 0x90befffa, 0xa4506ceb, 0xbef9a3f7, 0xc67178f2,
}

// machine takes a text byte by byte, so that pieces need not be put together first.
type machine struct {
	eight [8]uint32
	ring  [own]uint32 // the block's words; those made of them take the places of the oldest
	taken uint64      // bytes so far
}

func begin() machine {
	return machine{eight: [8]uint32{
		0x6a09e667, 0xbb67ae85, 0x3c6ef372, 0xa54ff53a, 0x510e527f, 0x9b05688c, 0x1f83d9ab, 0x5be0cd19,
	}}
}

// put needs no ring of zeros: four bytes push out all that a word was.
func (m *machine) put(b byte) {
	at := m.taken / 4 % own
	m.ring[at] = m.ring[at]<<8 | uint32(b)
	m.taken++
	if m.taken%block == 0 {
		m.mix()
	}
}

func (m *machine) text(s string) {
	for i := range len(s) {
		m.put(s[i])
	}
}

func (m *machine) number(n uint64) {
	for i := tail - 1; i >= 0; i-- {
		m.put(byte(n >> (8 * i)))
	}
}

// end is the digest of what was taken.
func (m *machine) end() string {
	bitsTaken := 8 * m.taken
	m.put(128)
	for m.taken%block != block-tail {
		m.put(0)
	}
	m.number(bitsTaken)
	b := make([]byte, 0, long)
	for _, w := range m.eight {
		b = append(b, byte(w>>24), byte(w>>16), byte(w>>8), byte(w))
	}
	return string(b)
}

// mix brings a whole block into the eight words; its names are the document's (a to h, t, u).
func (m *machine) mix() {
	a, b, c, d := m.eight[0], m.eight[1], m.eight[2], m.eight[3]
	e, f, g, h := m.eight[4], m.eight[5], m.eight[6], m.eight[7]
	for i := range made {
		t := h + turned(e, 6, 11, 25) + (e&f ^ ^e&g) + constants[i] + m.word(i)
		u := turned(a, 2, 13, 22) + (a&b ^ a&c ^ b&c)
		h, g, f, e = g, f, e, d+t
		d, c, b, a = c, b, a, t+u
	}
	for i, w := range [8]uint32{a, b, c, d, e, f, g, h} {
		m.eight[i] += w
	}
}

// word is the i-th word that is made of the block: beyond its own, in the place of the one 16 ahead, which nothing asks for any more.
func (m *machine) word(i int) uint32 {
	at := i % own
	if i >= own {
		near, far := m.ring[(i-2)%own], m.ring[(i-15)%own]
		m.ring[at] += spread(far, 7, 18, 3) + m.ring[(i-7)%own] + spread(near, 17, 19, 10)
	}
	return m.ring[at]
}

// turned is the word turned to the right by three numbers, xored.
func turned(x uint32, k, l, n int) uint32 {
	return bits.RotateLeft32(x, -k) ^ bits.RotateLeft32(x, -l) ^ bits.RotateLeft32(x, -n)
}

// spread turns the word by two numbers alone: by the third one it is moved.
func spread(x uint32, k, l, n int) uint32 {
	return bits.RotateLeft32(x, -k) ^ bits.RotateLeft32(x, -l) ^ x>>n
}
