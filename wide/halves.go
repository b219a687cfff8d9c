package wide

import (
	"strings"

	"dovecote/keyed"
	"dovecote/stream"
)

const (
	leftLong  = 32 // bytes of a left, of a key that turns, and of a tag: so one can be xored with another
	nonceLong = 12
	label     = "wide"
)

// keys are the four of a key: the first and the third turn the right, the others the left.
type keys struct{ k1, k2, k3, k4 string }

// derived passes keyed's error over: it takes this length.
func derived(key string) keys {
	s, _ := keyed.Derive(key, label, 4*leftLong)
	at := func(i int) string { return s[i*leftLong : (i+1)*leftLong] }
	return keys{at(0), at(1), at(2), at(3)}
}

// halves are a block in hand, with the keys that turn it.
type halves struct {
	keys
	left, right string
}

// parted takes blocks of a right length alone.
func parted(key, block string) halves {
	return halves{derived(key), block[:leftLong], block[leftLong:]}
}

func (h *halves) whole() string {
	return h.left + h.right
}

func (h *halves) shut() {
	h.turnRight(h.k1)
	h.turnLeft(h.k2)
	h.turnRight(h.k3)
	h.turnLeft(h.k4)
}

// open takes the steps of shut back: each is its own inverse, as it leaves the half that it hangs on.
func (h *halves) open() {
	h.turnLeft(h.k4)
	h.turnRight(h.k3)
	h.turnLeft(h.k2)
	h.turnRight(h.k1)
}

// turnRight passes stream's error over: a left is as long as stream's key, and a right is shorter than what stream takes.
func (h *halves) turnRight(k string) {
	h.right, _ = stream.Xor(xored(h.left, k), strings.Repeat("\x00", nonceLong), 0, h.right)
}

func (h *halves) turnLeft(k string) {
	h.left = xored(h.left, keyed.Tag(k, h.right))
}

// xored is both texts, byte by byte; they are of one length.
func xored(a, b string) string {
	x := []byte(a)
	for i := range x {
		x[i] ^= b[i]
	}
	return string(x)
}
