package log

import (
	"strings"

	"dovecote/api"
	"dovecote/disk"
)

// place is where a half lies: its first sector, and how many it has.
type place struct {
	on         *disk.Disk
	from, many int
}

// other is where the other half lies: one of the two begins at 0.
func (p place) other() place {
	return place{on: p.on, from: p.many - p.from, many: p.many}
}

func (p place) read() (string, api.Errno) {
	var all strings.Builder
	for i := range p.many {
		b, e := p.on.Read(p.from + i)
		if e != api.OK {
			return "", e
		}
		all.WriteString(b)
	}
	return all.String(), api.OK
}

// write writes whole sectors, from one of the half's on.
func (p place) write(at int, sectors string) api.Errno {
	for i := 0; i < len(sectors); i += api.Sector {
		if e := p.on.Write(p.from+at+i/api.Sector, sectors[i:i+api.Sector]); e != api.OK {
			return e
		}
	}
	return api.OK
}

func (p place) sync() api.Errno { return p.on.Sync() }

// half is what lies at a place: a head and records.
type half struct {
	place
	generation int // 0: the head is not right
	texts      []string
	taken      int    // sectors, of the head and the records
	mark       string // that the next record goes on from
}

// inUse is the half of the greater generation; of two that are as great, the first one.
func inUse(places ...place) (half, api.Errno) {
	var best half
	for _, p := range places {
		h, e := find(p)
		if e != api.OK {
			return half{}, e
		}
		if h.generation > best.generation {
			best = h
		}
	}
	return best, api.OK
}

// find is the half that lies at a place. Its records end ahead of the first one that is not right, whatever is behind it.
func find(p place) (half, api.Errno) {
	b, e := p.read()
	if e != api.OK {
		return half{}, e
	}
	h := half{place: p, generation: generationOf(b)}
	if h.generation == 0 {
		return h, api.OK
	}
	h.goOnFromHead()
	for {
		r, ok := recordOf(b[h.taken*api.Sector:], h.mark)
		if !ok {
			return h, api.OK
		}
		h.has(r)
	}
}

// clean brings all sectors back to bytes 0 that are not taken. Where all are, the disk is not asked to do anything.
func (h *half) clean() api.Errno {
	b, e := h.read()
	if e != api.OK {
		return e
	}
	dirty := false
	for at := h.taken; at < h.many; at++ {
		if b[at*api.Sector:(at+1)*api.Sector] == zeros(api.Sector) {
			continue
		}
		dirty = true
		if e := h.write(at, zeros(api.Sector)); e != api.OK {
			return e
		}
	}
	if !dirty {
		return api.OK
	}
	return h.sync()
}

// add writes a record behind the others. Only once all of it is written does the half have it.
func (h *half) add(text string) api.Errno {
	r := next(h.mark, text)
	if e := h.write(h.taken, r.sectors()); e != api.OK {
		return e
	}
	h.has(r)
	return api.OK
}

func (h *half) goOnFromHead() {
	h.taken, h.mark = 1, headMark(h.generation)
}

func (h *half) has(r record) {
	h.texts = append(h.texts, strings.Clone(r.text))
	h.taken += sectorsOf(r.text)
	h.mark = r.mark
}

// beginning is a half that is begun, and the texts that it will have.
type beginning struct {
	half
	wanted []string
}

// begin makes a half anew. Its head comes last, and all else is synced ahead of it: a right head tells that the records are.
func begin(p place, generation int, texts ...string) (half, api.Errno) {
	b := beginning{half{place: p, generation: generation}, texts}
	if e := inOrder(b.clean, b.fill, b.sync, b.crown, b.sync); e != api.OK {
		return half{}, e
	}
	return b.half, api.OK
}

func (b *beginning) fill() api.Errno {
	b.goOnFromHead()
	for _, text := range b.wanted {
		if e := b.add(text); e != api.OK {
			return e
		}
	}
	return api.OK
}

func (b *beginning) crown() api.Errno { return b.write(0, head(b.generation)) }

// inOrder does one step behind the other, up to the first that is refused.
func inOrder(steps ...func() api.Errno) api.Errno {
	for _, step := range steps {
		if e := step(); e != api.OK {
			return e
		}
	}
	return api.OK
}
