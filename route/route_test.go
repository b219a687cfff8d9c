package route_test

import (
	"fmt"
	"math"
	"math/rand"
	"slices"
	"strings"
	"sync"
	"testing"

	"dovecote/api"
	"dovecote/route"
)

const id = "an id of 16 byte"

// drawn is a text of so many bytes, the same one in each run.
func drawn(seed int64, many int) string {
	b := make([]byte, many)
	rand.New(rand.NewSource(seed)).Read(b)
	return string(b)
}

// zeros has so many bytes 0.
func zeros(many int) string {
	return strings.Repeat("\x00", many)
}

// with is the text with another byte at a place.
func with(s string, at int, b byte) string {
	return s[:at] + string([]byte{b}) + s[at+1:]
}

// lead is the first four bytes of a command.
func lead(kind, place, higher, lower byte) string {
	return string([]byte{kind, place, higher, lower})
}

// on, home, loop and drop are commands of each kind.
func on(node, delay int) api.Hop { return api.Hop{Kind: api.HOn, Node: node, Delay: delay} }

func home(user, delay int, id string) api.Hop {
	return api.Hop{Kind: api.HHome, User: user, Delay: delay, Id: id}
}

func loop(id string) api.Hop { return api.Hop{Kind: api.HLoop, Id: id} }

func drop() api.Hop { return api.Hop{Kind: api.HDrop} }

// pair is a command, and its bytes put together by hand.
type pair struct {
	hop   api.Hop
	bytes string
}

// pairs are of each kind, with the edges of what it names.
func pairs() []pair {
	full := strings.Repeat("\xff", 16)
	return []pair{
		{on(3, 258), lead(1, 3, 1, 2) + zeros(20)},
		{on(0, 0), lead(1, 0, 0, 0) + zeros(20)},
		{on(31, 0), lead(1, 31, 0, 0) + zeros(20)},
		{on(0, 1), lead(1, 0, 0, 1) + zeros(20)},
		{on(1, 255), lead(1, 1, 0, 255) + zeros(20)},
		{on(2, 256), lead(1, 2, 1, 0) + zeros(20)},
		{on(30, 257), lead(1, 30, 1, 1) + zeros(20)},
		{on(17, 4095), lead(1, 17, 15, 255) + zeros(20)},
		{on(31, 4096), lead(1, 31, 16, 0) + zeros(20)},
		{home(0, 0, id), lead(2, 0, 0, 0) + id + zeros(4)},
		{home(31, 1, id), lead(2, 31, 0, 1) + id + zeros(4)},
		{home(32, 255, id), lead(2, 32, 0, 255) + id + zeros(4)},
		{home(63, 256, id), lead(2, 63, 1, 0) + id + zeros(4)},
		{home(7, 257, zeros(16)), lead(2, 7, 1, 1) + zeros(20)},
		{home(62, 4095, full), lead(2, 62, 15, 255) + full + zeros(4)},
		{home(63, 4096, drawn(1, 16)), lead(2, 63, 16, 0) + drawn(1, 16) + zeros(4)},
		{loop(id), lead(3, 0, 0, 0) + id + zeros(4)},
		{loop(zeros(16)), lead(3, 0, 0, 0) + zeros(20)},
		{loop(full), lead(3, 0, 0, 0) + full + zeros(4)},
		{loop(zeros(15) + "\x01"), lead(3, 0, 0, 0) + zeros(15) + "\x01" + zeros(4)},
		{loop("\x01" + zeros(15)), lead(3, 0, 0, 0) + "\x01" + zeros(15) + zeros(4)},
		{drop(), lead(4, 0, 0, 0) + zeros(20)},
	}
}

// mayBe is the chapter's words on a command, kind by kind.
func mayBe(h api.Hop) bool {
	node := 0 <= h.Node && h.Node <= 31
	user := 0 <= h.User && h.User <= 63
	delay := 0 <= h.Delay && h.Delay <= 4096
	switch h.Kind {
	case 1:
		return node && delay && h.User == 0 && h.Id == ""
	case 2:
		return user && delay && len(h.Id) == 16 && h.Node == 0
	case 3:
		return len(h.Id) == 16 && h.Node == 0 && h.User == 0 && h.Delay == 0
	case 4:
		return h.Node == 0 && h.User == 0 && h.Delay == 0 && h.Id == ""
	}
	return false
}

// byHand is the bytes of a command that may be.
func byHand(h api.Hop) string {
	place := h.Node
	if h.Kind == 2 {
		place = h.User
	}
	text := h.Id
	if text == "" {
		text = zeros(16)
	}
	return lead(byte(h.Kind), byte(place), byte(h.Delay/256), byte(h.Delay%256)) + text + zeros(4)
}

// encoded fails unless the command may be, and has these bytes.
func encoded(t *testing.T, h api.Hop, want string) {
	t.Helper()
	if e := route.Check(h); e != api.OK {
		t.Errorf("Check(%+v): %d", h, e)
	}
	if b, e := route.Encode(h); b != want || e != api.OK {
		t.Errorf("Encode(%+v): %x %d, not %x", h, b, e, want)
	}
}

// decoded fails unless the bytes are just this command.
func decoded(t *testing.T, b string, want api.Hop) {
	t.Helper()
	if h, e := route.Decode(b); h != want || e != api.OK {
		t.Errorf("Decode(%x): %+v %d, not %+v", b, h, e, want)
	}
}

// noCommand fails unless the command is refused.
func noCommand(t *testing.T, h api.Hop) {
	t.Helper()
	if e := route.Check(h); e != api.ErrRoute {
		t.Errorf("Check(%+v): %d", h, e)
	}
	if b, e := route.Encode(h); b != "" || e != api.ErrRoute {
		t.Errorf("Encode(%+v): %x %d", h, b, e)
	}
}

// noBytes fails unless the bytes are refused by this error.
func noBytes(t *testing.T, b string, want api.Errno) {
	t.Helper()
	if h, e := route.Decode(b); h != (api.Hop{}) || e != want {
		t.Errorf("Decode(%x): %+v %d, not %d", b, h, e, want)
	}
}

// Promise 7.1.

func TestCommandsAndTheirBytes(t *testing.T) {
	for _, p := range pairs() {
		encoded(t, p.hop, p.bytes)
		decoded(t, p.bytes, p.hop)
	}
}

func TestEachPlaceAndDelay(t *testing.T) {
	for place := -2; place <= 258; place++ {
		for _, h := range []api.Hop{on(place, 5), home(place, 5, id)} {
			if mayBe(h) {
				encoded(t, h, byHand(h))
			} else {
				noCommand(t, h)
			}
		}
	}
	for delay := -2; delay <= 4100; delay++ {
		for _, h := range []api.Hop{on(5, delay), home(5, delay, id)} {
			if mayBe(h) {
				encoded(t, h, byHand(h))
				decoded(t, byHand(h), h)
			} else {
				noCommand(t, h)
			}
		}
	}
}

// TestFieldsTogether holds every mixture of the edges against the chapter's words: whatever else is wrong, and what a kind does not name.
func TestFieldsTogether(t *testing.T) {
	kinds := []int{math.MinInt, -255, -1, 0, 1, 2, 3, 4, 5, 255, 256, 257, 258, 259, 260, 261, math.MaxInt}
	nodes := []int{-1, 0, 1, 31, 32, 256}
	users := []int{-1, 0, 1, 31, 63, 64, 256}
	delays := []int{-1, 0, 1, 255, 256, 257, 4096, 4097, 65536}
	ids := []string{"", "x", zeros(15), zeros(16), id[:15], id, id + "x", id + id}
	right := 0
	for _, kind := range kinds {
		for _, node := range nodes {
			for _, user := range users {
				for _, delay := range delays {
					for _, text := range ids {
						h := api.Hop{Kind: kind, Node: node, User: user, Delay: delay, Id: text}
						if !mayBe(h) {
							noCommand(t, h)
							continue
						}
						right++
						encoded(t, h, byHand(h))
						decoded(t, byHand(h), h)
					}
				}
			}
		}
	}
	if want := 3*6 + 4*6*2 + 2 + 1; right != want {
		t.Errorf("%d commands that may be, not %d", right, want)
	}
}

func TestKindsThatAreNone(t *testing.T) {
	for _, kind := range []int{math.MinInt, -256, -255, -1, 0, 5, 6, 255, 256, 257, 258, 259, 260, 261, 1 << 32, 1<<32 + 1, math.MaxInt} {
		noCommand(t, api.Hop{Kind: kind})
		noCommand(t, api.Hop{Kind: kind, Node: 3, Delay: 258})
		noCommand(t, api.Hop{Kind: kind, User: 3, Delay: 258, Id: id})
		noCommand(t, api.Hop{Kind: kind, Id: id})
	}
	for kind := range 256 {
		if kind >= 1 && kind <= 4 {
			continue
		}
		for _, rest := range []string{zeros(23), lead(3, 1, 2, 0) + zeros(19), zeros(3) + id + zeros(4), "\x03\x01\x02" + id + zeros(4)} {
			noBytes(t, string([]byte{byte(kind)})+rest, api.ErrRoute)
		}
	}
}

func TestNumbersThatMayNotBe(t *testing.T) {
	for _, far := range []int{math.MinInt, -65536, -4096, -256, -64, -32, -1, math.MaxInt, 1 << 32, 1<<40 + 1} {
		noCommand(t, on(far, 0))
		noCommand(t, on(0, far))
		noCommand(t, home(far, 0, id))
		noCommand(t, home(0, far, id))
		noCommand(t, on(far, far))
		noCommand(t, home(far, far, id))
		noCommand(t, api.Hop{Kind: api.HOn, Node: far, User: -far})
		noCommand(t, api.Hop{Kind: api.HHome, Node: far, User: -far, Id: id})
	}
	noCommand(t, on(32, 0))
	noCommand(t, on(63, 0))
	noCommand(t, on(256, 0))
	noCommand(t, on(0, 4097))
	noCommand(t, home(64, 0, id))
	noCommand(t, home(256, 0, id))
	noCommand(t, home(0, 4097, id))
}

func TestIdsOfOtherLengths(t *testing.T) {
	for n := range 40 {
		text := drawn(int64(n), n)
		for _, h := range []api.Hop{home(1, 2, text), loop(text)} {
			if n == 16 {
				encoded(t, h, byHand(h))
			} else {
				noCommand(t, h)
			}
		}
	}
	for _, n := range []int{256, 256 + 16, api.MaxBytes, api.MaxBytes + 16, 1 << 20} {
		noCommand(t, home(1, 2, zeros(n)))
		noCommand(t, loop(zeros(n)))
	}
}

// TestWhatAKindDoesNotName: one thing too many makes each command none.
func TestWhatAKindDoesNotName(t *testing.T) {
	for _, p := range pairs() {
		h := p.hop
		for _, n := range []int{-1, 1, 3, 31, 256, math.MaxInt, math.MinInt} {
			if h.Kind != api.HOn {
				more := h
				more.Node = n
				noCommand(t, more)
			}
			if h.Kind != api.HHome {
				more := h
				more.User = n
				noCommand(t, more)
			}
			if h.Kind == api.HLoop || h.Kind == api.HDrop {
				more := h
				more.Delay = n
				noCommand(t, more)
			}
		}
		for _, text := range []string{"x", "\x00", zeros(16), id} {
			if h.Kind == api.HOn || h.Kind == api.HDrop {
				more := h
				more.Id = text
				noCommand(t, more)
			}
		}
	}
}

func TestBytesOfOtherLengths(t *testing.T) {
	for _, p := range pairs() {
		for n := range 24 {
			noBytes(t, p.bytes[:n], api.ErrForm)
		}
		for _, n := range []int{1, 2, 4, 24, 256, 1 << 16} {
			noBytes(t, p.bytes+zeros(n), api.ErrForm)
		}
		noBytes(t, p.bytes+p.bytes, api.ErrForm)
	}
	for _, n := range []int{0, 1, 22, 23, 25, 26, 48, 256 + 24, api.MaxBytes + 24} {
		// The length is told first: these are no command's bytes either.
		noBytes(t, strings.Repeat("\xff", n), api.ErrForm)
		noBytes(t, zeros(n), api.ErrForm)
	}
	noBytes(t, zeros(24), api.ErrRoute)
	noBytes(t, strings.Repeat("\xff", 24), api.ErrRoute)
}

// TestBytesWhereTheKindHasNone: each place that is 0 in all commands of the kind is held to that.
func TestBytesWhereTheKindHasNone(t *testing.T) {
	zero := map[int][]int{
		api.HOn:   {4, 5, 6, 7, 8, 9, 10, 11, 12, 13, 14, 15, 16, 17, 18, 19, 20, 21, 22, 23},
		api.HHome: {20, 21, 22, 23},
		api.HLoop: {1, 2, 3, 20, 21, 22, 23},
		api.HDrop: {1, 2, 3, 4, 5, 6, 7, 8, 9, 10, 11, 12, 13, 14, 15, 16, 17, 18, 19, 20, 21, 22, 23},
	}
	for _, p := range pairs() {
		for _, at := range zero[p.hop.Kind] {
			for _, b := range []byte{1, 2, 16, 128, 255} {
				noBytes(t, with(p.bytes, at, b), api.ErrRoute)
			}
		}
	}
}

func TestBytesOfNumbersThatMayNotBe(t *testing.T) {
	for place := range 256 {
		b := byte(place)
		onward, at := lead(1, b, 1, 2)+zeros(20), lead(2, b, 1, 2)+id+zeros(4)
		if place < 32 {
			decoded(t, onward, on(place, 258))
		} else {
			noBytes(t, onward, api.ErrRoute)
		}
		if place < 64 {
			decoded(t, at, home(place, 258, id))
		} else {
			noBytes(t, at, api.ErrRoute)
		}
	}
	for delay := range 1 << 16 {
		higher, lower := byte(delay/256), byte(delay%256)
		onward, at := lead(1, 3, higher, lower)+zeros(20), lead(2, 3, higher, lower)+id+zeros(4)
		if delay <= 4096 {
			decoded(t, onward, on(3, delay))
			decoded(t, at, home(3, delay, id))
		} else {
			noBytes(t, onward, api.ErrRoute)
			noBytes(t, at, api.ErrRoute)
		}
	}
}

// Promise 7.2.

// goes fails unless Path answers just this.
func goes(t *testing.T, want api.Errno, l ...api.Hop) {
	t.Helper()
	if e := route.Path(l...); e != want {
		t.Errorf("Path(%+v): %d, not %d", l, e, want)
	}
}

// ends are commands that a path can end with.
func ends() []api.Hop {
	return []api.Hop{home(0, 0, id), home(63, 4096, zeros(16)), loop(id), drop()}
}

// onward is so many commands that go on, of differing nodes and delays.
func onward(many int) []api.Hop {
	var l []api.Hop
	for i := range many {
		l = append(l, on((7*i)%32, (1000*i)%4097))
	}
	return l
}

func TestPathsOfEachLength(t *testing.T) {
	for many := range 12 {
		for _, end := range ends() {
			want := api.OK
			if many > 4 {
				want = api.ErrShape
			}
			goes(t, want, append(onward(many), end)...)
		}
	}
	for _, many := range []int{api.MaxItems, api.MaxItems + 1, 1 << 16} {
		goes(t, api.ErrShape, append(onward(many), drop())...)
	}
}

func TestPathsOfNone(t *testing.T) {
	goes(t, api.ErrShape)
	goes(t, api.ErrShape, nil...)
	goes(t, api.ErrShape, []api.Hop{}...)
	goes(t, api.ErrShape, make([]api.Hop, 0, 5)...)
}

func TestPathsWhoseLastGoesOn(t *testing.T) {
	for many := 1; many <= 7; many++ {
		goes(t, api.ErrShape, onward(many)...)
	}
}

func TestPathsThatEndAheadOfTheLast(t *testing.T) {
	for many := 2; many <= 6; many++ {
		for at := range many - 1 {
			for _, early := range ends() {
				for _, end := range append(ends(), on(1, 1)) {
					l := append(onward(many-1), end)
					l[at] = early
					goes(t, api.ErrShape, l...)
				}
			}
		}
	}
	for many := 2; many <= 6; many++ {
		for _, end := range ends() {
			goes(t, api.ErrShape, slices.Repeat([]api.Hop{end}, many)...)
		}
	}
}

// TestPathsWithOneThatMayNotBe: it is told whatever else is wrong of the path, wherever it stands.
func TestPathsWithOneThatMayNotBe(t *testing.T) {
	none := []api.Hop{{}, {Kind: 5}, {Kind: 257}, on(32, 0), on(0, 4097), on(-1, 0), home(64, 0, id), home(0, 0, id[:15]), loop(""), {Kind: api.HDrop, Delay: 1}, {Kind: api.HOn, Id: id}}
	for _, bad := range none {
		goes(t, api.ErrRoute, bad)
		for many := 1; many <= 8; many++ {
			for at := range many {
				for _, end := range append(ends(), on(1, 1)) {
					l := append(onward(many-1), end)
					l[at] = bad
					goes(t, api.ErrRoute, l...)
					m := slices.Repeat([]api.Hop{end}, many)
					m[at] = bad
					goes(t, api.ErrRoute, m...)
				}
			}
		}
	}
	goes(t, api.ErrRoute, append(onward(1<<12), drop(), api.Hop{})...)
	goes(t, api.ErrRoute, make([]api.Hop, 6)...)
}

// TestPathsAreLeftAsTheyAre: neither the commands nor what lies behind the list's length is read or written.
func TestPathsAreLeftAsTheyAre(t *testing.T) {
	room := append(onward(4), drop(), api.Hop{Kind: 9}, on(32, 0), drop())
	for many := range len(room) + 1 {
		kept := slices.Clone(room)
		e := route.Path(room[:many]...)
		if !slices.Equal(room, kept) {
			t.Fatalf("%d of them: %+v, not %+v", many, room, kept)
		}
		want := api.ErrShape
		if many == 5 {
			want = api.OK
		} else if many > 5 {
			want = api.ErrRoute
		}
		if e != want {
			t.Errorf("%d of them: %d, not %d", many, e, want)
		}
	}
}

// Promise 7.3.

func TestEncodedIsDecoded(t *testing.T) {
	r := rand.New(rand.NewSource(73))
	seen := map[string]api.Hop{}
	for range 20000 {
		h := api.Hop{Kind: 1 + r.Intn(4)}
		switch h.Kind {
		case api.HOn:
			h.Node, h.Delay = r.Intn(32), r.Intn(4097)
		case api.HHome:
			h.User, h.Delay, h.Id = r.Intn(64), r.Intn(4097), drawn(r.Int63(), 16)
		case api.HLoop:
			h.Id = drawn(r.Int63(), 16)
		}
		b, e := route.Encode(h)
		if e != api.OK || len(b) != 24 {
			t.Fatalf("Encode(%+v): %x %d", h, b, e)
		}
		if other, ok := seen[b]; ok && other != h {
			t.Fatalf("%x: %+v and %+v", b, h, other)
		}
		seen[b] = h
		decoded(t, b, h)
	}
}

// TestDecodedIsEncoded draws bytes near to those of commands: what is decoded has just those bytes, and may be.
func TestDecodedIsEncoded(t *testing.T) {
	r := rand.New(rand.NewSource(37))
	all := pairs()
	right := 0
	for range 50000 {
		b := []byte(all[r.Intn(len(all))].bytes)
		for range r.Intn(3) {
			b[r.Intn(24)] = byte(r.Intn(256) >> r.Intn(8))
		}
		h, e := route.Decode(string(b))
		if e == api.ErrRoute && h == (api.Hop{}) {
			if bytesOfOne(string(b)) {
				t.Fatalf("Decode(%x): refused", b)
			}
			continue
		}
		if e != api.OK || !mayBe(h) || byHand(h) != string(b) {
			t.Fatalf("Decode(%x): %+v %d", b, h, e)
		}
		encoded(t, h, string(b))
		right++
	}
	if right < 1000 {
		t.Errorf("only %d were commands", right)
	}
}

// bytesOfOne reads 24 bytes by the chapter's words, without Decode.
func bytesOfOne(b string) bool {
	delay, rest := int(b[2])*256+int(b[3]), b[4:20] != zeros(16)
	if b[20:] != zeros(4) {
		return false
	}
	switch b[0] {
	case 1:
		return b[1] < 32 && delay <= 4096 && !rest
	case 2:
		return b[1] < 64 && delay <= 4096
	case 3:
		return b[1] == 0 && delay == 0
	case 4:
		return b[1] == 0 && delay == 0 && !rest
	}
	return false
}

// TestKindsAreKeptApart: the same bytes of an id under another kind are another command, or none.
func TestKindsAreKeptApart(t *testing.T) {
	decoded(t, lead(2, 0, 0, 0)+zeros(20), home(0, 0, zeros(16)))
	decoded(t, lead(3, 0, 0, 0)+zeros(20), loop(zeros(16)))
	decoded(t, lead(1, 0, 0, 0)+zeros(20), on(0, 0))
	decoded(t, lead(4, 0, 0, 0)+zeros(20), drop())
	noBytes(t, lead(1, 0, 0, 0)+id+zeros(4), api.ErrRoute)
	noBytes(t, lead(4, 0, 0, 0)+id+zeros(4), api.ErrRoute)
}

// R7: calls at the same time do not touch each other.

func TestCallsDoNotTouch(t *testing.T) {
	all := pairs()
	var wait sync.WaitGroup
	told := make([]string, 16)
	for i := range told {
		wait.Add(1)
		go func() {
			defer wait.Done()
			for k := range 500 {
				p := all[(i+k)%len(all)]
				b, e := route.Encode(p.hop)
				h, f := route.Decode(p.bytes)
				g := route.Path(on(1, 2), p.hop)
				ends := p.hop.Kind != api.HOn
				if b != p.bytes || e != api.OK || h != p.hop || f != api.OK || (g == api.OK) != ends {
					told[i] = fmt.Sprintf("%+v: %x %d %+v %d %d", p.hop, b, e, h, f, g)
				}
			}
		}()
	}
	wait.Wait()
	for _, s := range told {
		if s != "" {
			t.Error(s)
		}
	}
}
