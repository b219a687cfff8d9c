package head

import (
	"dovecote/api"
	"dovecote/keyed"
	"dovecote/stream"
)

const (
	pointLong = 32 // bytes of a point, a private key, a seed and a secret
	keyLong   = 32
	tagLong   = 16 // bytes of a replay tag
	nonceLong = 12
)

// source is what keys are derived of: a hop's shared secret, or a seed.
type source struct{ secret string }

// derived passes keyed's error over: it takes all lengths that are asked for here.
func (s source) derived(label string, n int) string {
	k, _ := keyed.Derive(s.secret, label, n)
	return k
}

// hopKeys are a hop's keys, with what derives them.
type hopKeys struct {
	source
	api.Keys
}

func keysOf(secret string) hopKeys {
	k := hopKeys{source: source{secret}}
	k.Flow = k.derived("flow", keyLong)
	k.Mac = k.derived("mac", keyLong)
	k.Body = k.derived("body", keyLong)
	k.Blind = k.derived("blind", keyLong)
	k.Tag = k.derived("tag", tagLong)
	return k
}

// turned is the text, xor the beginning of the hop's flow. It passes stream's error over: the key is as long as stream's, and no text here is longer than a list and a step.
func (k hopKeys) turned(text string) string {
	s, _ := stream.Xor(k.Flow, zeros(nonceLong), 0, text)
	return s
}

func (k hopKeys) macOf(list string) string {
	return keyed.Tag(k.Mac, list)[:macLong]
}

// padOf is what the last hop's list is filled up of: it looks like a filler, so that this hop does not see how many are ahead of it.
func padOf(seed string) string {
	return source{seed}.derived("pad", listLong)
}
