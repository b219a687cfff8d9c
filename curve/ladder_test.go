package curve

import "testing"

// TestClimbOddScalars: a clamped scalar is never odd, so that only this comes to a ladder that ends crossed.
func TestClimbOddScalars(t *testing.T) {
	u := small(9)
	if s := climb(small(0), u); s != small(0) {
		t.Errorf("0 times: %x", s)
	}
	if s := climb(small(1), u); s != u {
		t.Errorf("once: %x", s)
	}
	for _, k := range []int{2, 3, 5, 8, 255, 256, 257} {
		s := climb(small(k), climb(small(7), u))
		if want := climb(small(7*k), u); s != want {
			t.Errorf("7 times, then %d times: %x, want %x", k, s, want)
		}
	}
}
