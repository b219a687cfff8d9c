package seen

import (
	"slices"
	"strings"
)

const (
	tagSign   = "T" // that a record of a tag begins with
	epochSign = "E"
	tagLong   = 16 // bytes
	epochLong = 4
	epochMost = 1<<31 - 1 // the last epoch, though four bytes could tell greater ones
)

// epochs is what records make: an epoch, its tags, and those of the epoch ahead, the oldest first.
type epochs struct {
	epoch       int
	ahead, here []string
}

// take lets a record happen, and keeps a part of it: it must not be anybody else's. One that may not be changes nothing.
func (p *epochs) take(record string) bool {
	if tag, ok := strings.CutPrefix(record, tagSign); ok && len(tag) == tagLong {
		p.add(tag)
		return true
	}
	if b, ok := strings.CutPrefix(record, epochSign); ok && len(b) == epochLong {
		return p.turn(number(b))
	}
	return false
}

// add leaves a tag that is there already in the epoch that it is of.
func (p *epochs) add(tag string) {
	if !p.has(tag) {
		p.here = append(p.here, tag)
	}
}

// turn goes on to an epoch: this one, the next, or one far off, to which no tag lasts. It does not go back, nor past the last one: there Rotate could neither go on nor say that it is the last.
func (p *epochs) turn(to int) bool {
	if to < p.epoch || to > epochMost {
		return false
	}
	switch to - p.epoch {
	case 0:
	case 1:
		p.ahead, p.here = p.here, nil
	default:
		p.ahead, p.here = nil, nil
	}
	p.epoch = to
	return true
}

func (p *epochs) has(tag string) bool {
	return slices.Contains(p.ahead, tag) || slices.Contains(p.here, tag)
}

func (p *epochs) many() int { return len(p.ahead) + len(p.here) }

func (p *epochs) all() []string {
	var l []string
	for _, tag := range slices.Concat(p.ahead, p.here) {
		l = append(l, strings.Clone(tag))
	}
	return l
}

// short is the records of the short log: they make the same, without what is there no more.
func (p *epochs) short() []string {
	var l []string
	if len(p.ahead) > 0 {
		l = appendEpoch(l, p.epoch-1, p.ahead)
	}
	return appendEpoch(l, p.epoch, p.here)
}

func appendEpoch(l []string, epoch int, tags []string) []string {
	l = append(l, epochRecord(epoch))
	for _, tag := range tags {
		l = append(l, tagRecord(tag))
	}
	return l
}

func tagRecord(tag string) string { return tagSign + tag }

// epochRecord has the epoch's highest byte first.
func epochRecord(epoch int) string {
	return epochSign + string([]byte{byte(epoch >> 24), byte(epoch >> 16), byte(epoch >> 8), byte(epoch)})
}

// number is what bytes tell, the highest first.
func number(b string) int {
	n := 0
	for i := range len(b) {
		n = n<<8 | int(b[i])
	}
	return n
}
