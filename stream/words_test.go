package stream

import "testing"

// TestQuarterVectors has those of RFC 8439, 2.1.1 and 2.2.1.
func TestQuarterVectors(t *testing.T) {
	w := words{0x11111111, 0x01020304, 0x9b8d6f43, 0x01234567}
	w.quarter(0, 1, 2, 3)
	if want := (words{0xea2a92f4, 0xcb1cf8ce, 0x4581472e, 0x5881c4bb}); w != want {
		t.Errorf("%x; want %x", w, want)
	}
	w = words{
		0x879531e0, 0xc5ecf37d, 0x516461b1, 0xc9a62f8a, 0x44c20ef3, 0x3390af7f, 0xd9fc690b, 0x2a5f714c,
		0x53372767, 0xb00a5631, 0x974c541a, 0x359e9963, 0x5c971061, 0x3d631689, 0x2098d9d6, 0x91dbd320,
	}
	want := w
	want[2], want[7], want[8], want[13] = 0xbdb886dc, 0xcfacafd2, 0xe46bea80, 0xccc07c79
	w.quarter(2, 7, 8, 13)
	if w != want {
		t.Errorf("%x; want %x", w, want)
	}
}

// TestWordsAreCopied: what makes a block, or a stream, leaves the words as they were.
func TestWordsAreCopied(t *testing.T) {
	w := begin("0123456789abcdef0123456789ABCDEF", "a nonce of12", 1<<32-1)
	first := w
	w.mixed()
	w.bytes()
	w.xor(make([]byte, 200))
	if w != first {
		t.Errorf("%x; want %x", w, first)
	}
}
