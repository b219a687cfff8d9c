package keyed

import (
	"slices"

	"dovecote/hash"
)

const (
	block = 64 // bytes that a key is brought to
	near  = 54 // what its bytes are xored with, ahead of the pieces
	far   = 92 // and ahead of their digest
)

// pads are a key made ready for both digests: who makes many tags under one key digests and fills it up once.
type pads struct {
	inner, outer string
}

func padded(key string) pads {
	if len(key) > block {
		key = hash.Sum(key)
	}
	var inner [block]byte
	copy(inner[:], key)
	outer := inner
	for i := range block {
		inner[i] ^= near
		outer[i] ^= far
	}
	return pads{string(inner[:]), string(outer[:])}
}

// tag makes a list of its own, as the pieces' list may have spare room that is not ours.
func (p pads) tag(l ...string) string {
	return hash.Sum(p.outer, hash.Sum(slices.Concat([]string{p.inner}, l)...))
}
