package loops

const idLong = 16 // bytes

// name is a loop's id.
type name string

// loop is one that was sent. When it came back is not kept: the ledger's tick is never below that.
type loop struct {
	id   name
	sent int
	back bool
}

func (n name) isOf(o loop) bool { return o.id == n }

func (o loop) isOpen() bool { return !o.back }
