package pack

import (
	"dovecote/api"
	"dovecote/wide"
)

// inHand is a packet's payload at one hop, with the keys that the hop has of the packet.
type inHand struct {
	api.Keys
	block string
}

// wrap passes wide's error over: Make refuses what has no room.
func (p *inHand) wrap(text string) {
	p.block, _ = wide.Wrap(p.Body, text, api.Payload)
}

// shut passes wide's error over, as open does: a payload is a block of a right length.
func (p *inHand) shut() {
	p.block, _ = wide.Shut(p.Body, p.block)
}

func (p *inHand) open() {
	p.block, _ = wide.Open(p.Body, p.block)
}

// text is what wrap was given, if nobody changed the payload since.
func (p *inHand) text() (string, api.Errno) {
	return wide.Unwrap(p.Body, p.block)
}

// payload is the text, shut for each of these hops. The last one opens what was shut first; there is one at least.
func payload(text string, hops ...api.Keys) string {
	last := len(hops) - 1
	p := inHand{Keys: hops[last]}
	p.wrap(text)
	for i := last - 1; i >= 0; i-- {
		p.Keys = hops[i]
		p.shut()
	}
	return p.block
}
