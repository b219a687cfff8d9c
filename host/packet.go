package host

import (
	"dovecote/api"
	"dovecote/pack"
)

// packet lets the node take it. The node refuses what is home as it does what has no command, and has kept nothing of it.
func (h *Host) packet(text string) {
	e := h.Mix.Take(text)
	if e == api.ErrRoute {
		h.home(text)
		return
	}
	orGiveUp(e)
}

// home puts a packet's text into its user's box. Its tag is seen ahead of that, so that it is not put there twice.
func (h *Host) home(packet string) {
	p, e := pack.Peel(h.private, packet)
	orGiveUp(e)
	if !h.Gate.Has(p.Hop.User) {
		orGiveUp(api.ErrAuth)
	}
	orGiveUp(h.Add(p.Tag))
	orGiveUp(h.Boxes.Put(p.Hop.User, p.Hop.Id, p.Text))
	h.counts.Home++
}

// orGiveUp ends the packet that is in hand, unless all is right with it: Take catches what it is refused for.
func orGiveUp(e api.Errno) {
	if e != api.OK {
		panic(e)
	}
}

// refused counts a packet that gave up, and tells what it is refused for. A panic that is no packet's is not caught.
func (h *Host) refused(why any) api.Errno {
	e := why.(api.Errno)
	if e == api.ErrSeen {
		h.counts.Twice++
	} else {
		h.counts.Bad++
	}
	return e
}
