package delay_test

import (
	"encoding/binary"
	"math"
	"math/big"
	"math/rand"
	"slices"
	"strings"
	"sync"
	"testing"

	"dovecote/api"
	"dovecote/delay"
	"dovecote/tape"
)

const (
	meanMost = 4096
	capMost  = 4096
	several  = 64
	all      = 1 << 32 // how many words there are
)

// drawn is a text of so many bytes, the same one in each run.
func drawn(seed int64, many int) string {
	b := make([]byte, many)
	rand.New(rand.NewSource(seed)).Read(b)
	return string(b)
}

func zeros(many int) string { return strings.Repeat("\x00", many) }

// words is the texts of numbers, four bytes each, the highest first.
func words(l ...int) string {
	var b []byte
	for _, u := range l {
		b = binary.BigEndian.AppendUint32(b, uint32(u))
	}
	return string(b)
}

// Numbers that the calls refuse.
func wrongMeans() []int { return append(farOff(), 4097, 4098, 8192, 1<<16) }

func wrongCaps() []int { return append(farOff(), api.MaxDelay+1, api.MaxDelay+2, 8191, 1<<16) }

func wrongWords() []int {
	return []int{-1, -2, -1 << 31, -1 << 32, math.MinInt, math.MinInt + 1, 1 << 32, 1<<32 + 1, 1 << 33, 1 << 40, math.MaxInt, math.MaxInt - 1}
}

func farOff() []int {
	return []int{-1, -2, -4095, -4096, -4097, -1 << 31, -1 << 32, 1 - 1<<32, math.MinInt, math.MinInt + 1, 1<<31 - 1, 1 << 31, 1<<32 - 1, 1 << 32, 1<<32 + 1, 1 << 62, math.MaxInt - 1, math.MaxInt}
}

// Numbers that the calls take, at their edges and between.
func someMeans() []int {
	return []int{0, 1, 2, 3, 4, 5, 7, 10, 31, 64, 100, 255, 256, 1000, 2047, 4094, 4095, 4096}
}

func someCaps() []int {
	return []int{0, 1, 2, 3, 4, 31, 32, 33, 34, 100, 255, 1000, 4095, api.MaxDelay}
}

// longMeans are for the longest tables: that of 236 comes to 0 at 4089, just ahead of the greatest cap, that of 237 does not.
func longMeans() []int { return []int{0, 1, 150, 236, 237, 1000, 4095, 4096} }

// byHand is a table by the chapter's words, in numbers of any length.
func byHand(mean, most int) []int {
	r := big.NewInt(all)
	l := []int{all}
	for len(l) <= most {
		r.Mul(r, big.NewInt(int64(mean)))
		r.Div(r, big.NewInt(int64(mean+1)))
		l = append(l, int(r.Int64()))
	}
	return l
}

// above is how many of a table's numbers, from the second on, are above a word.
func above(r []int, u int) int {
	n := 0
	for _, x := range r[1:] {
		if x > u {
			n++
		}
	}
	return n
}

func isWrong(n, most int) bool { return n < 0 || n > most }

// plain draws by the chapter's words from what is left of a text.
type plain struct {
	left string
	none bool // whether there is no tape
}

// draw is the delays of the next words, and which error is told.
func (p *plain) draw(most int, means ...int) ([]int, api.Errno) {
	wrong := isWrong(most, capMost) || len(means) > several
	for _, m := range means {
		wrong = wrong || isWrong(m, meanMost)
	}
	switch {
	case wrong:
		return nil, api.ErrRange
	case p.none || len(p.left) < 4*len(means):
		return nil, api.ErrTape
	}
	var l []int
	for _, m := range means {
		u := int(binary.BigEndian.Uint32([]byte(p.left)))
		p.left = p.left[4:]
		l = append(l, above(byHand(m, most), u))
	}
	return l, api.OK
}

// isTable, isOf, isDraw and isSeveral fail unless a call answers this.
func isTable(t *testing.T, mean, most int, want []int, wantE api.Errno) {
	t.Helper()
	if l, e := delay.Table(mean, most); !slices.Equal(l, want) || e != wantE {
		t.Fatalf("Table(%d, %d): %d numbers %v, error %d; want %d numbers %v, error %d", mean, most, len(l), few(l), e, len(want), few(want), wantE)
	}
}

func isOf(t *testing.T, mean, most, u, want int, wantE api.Errno) {
	t.Helper()
	if n, e := delay.Of(mean, most, u); n != want || e != wantE {
		t.Fatalf("Of(%d, %d, %d): %d, error %d; want %d, error %d", mean, most, u, n, e, want, wantE)
	}
}

func isDraw(t *testing.T, x *tape.Tape, mean, most, want int, wantE api.Errno) {
	t.Helper()
	if n, e := delay.Draw(x, mean, most); n != want || e != wantE {
		t.Fatalf("Draw(%d, %d): %d, error %d; want %d, error %d", mean, most, n, e, want, wantE)
	}
}

func isSeveral(t *testing.T, x *tape.Tape, most int, means, want []int, wantE api.Errno) {
	t.Helper()
	if l, e := delay.Several(x, most, means...); !slices.Equal(l, want) || e != wantE {
		t.Fatalf("Several(%d, %v): %v, error %d; want %v, error %d", most, few(means), l, e, want, wantE)
	}
}

// few is a list's front, short enough to be shown.
func few(l []int) []int { return l[:min(len(l), 70)] }

// has fails unless just these bytes are left of a tape, which it leaves as it is.
func has(t *testing.T, x *tape.Tape, want string) {
	t.Helper()
	if n := x.Left(); n != len(want) {
		t.Fatalf("%d bytes are left; want %d", n, len(want))
	}
	f := x.Fork()
	for want != "" {
		n := min(len(want), 4096)
		if s, e := f.Bytes(n); s != want[:n] || e != api.OK {
			t.Fatalf("other bytes are left, error %d", e)
		}
		want = want[n:]
	}
}

// Promise 13.1.

func TestExample(t *testing.T) {
	isTable(t, 1, 3, []int{1 << 32, 1 << 31, 1 << 30, 1 << 29}, api.OK)
	isOf(t, 1, 3, 1<<31, 0, api.OK)
	isOf(t, 1, 3, 1<<31-1, 1, api.OK)
	isOf(t, 1, 3, 0, 3, api.OK)
}

// TestTables has numbers that were reckoned apart from the program, and are written out.
func TestTables(t *testing.T) {
	for _, c := range []struct {
		mean int
		want []int
	}{
		{0, []int{4294967296, 0, 0, 0, 0, 0}},
		{1, []int{4294967296, 2147483648, 1073741824, 536870912, 268435456, 134217728}},
		{2, []int{4294967296, 2863311530, 1908874353, 1272582902, 848388601, 565592400, 377061600}},
		{3, []int{4294967296, 3221225472, 2415919104, 1811939328, 1358954496, 1019215872, 764411904}},
		{4, []int{4294967296, 3435973836, 2748779068, 2199023254, 1759218603, 1407374882}},
		{5, []int{4294967296, 3579139413, 2982616177, 2485513480, 2071261233, 1726051027}},
		{7, []int{4294967296, 3758096384, 3288334336, 2877292544, 2517630976, 2202927104}},
		{9, []int{4294967296, 3865470566, 3478923509, 3131031158, 2817928042}},
		{99, []int{4294967296, 4252017623, 4209497446, 4167402471, 4125728446}},
		{255, []int{4294967296, 4278190080, 4261478400, 4244832000, 4228250625}},
		{1000, []int{4294967296, 4290676619, 4286390228, 4282108119, 4277830288}},
		{4094, []int{4294967296, 4293918463, 4292869887, 4291821567, 4290773503}},
		{4095, []int{4294967296, 4293918720, 4292870400, 4291822335, 4290774526}},
		{4096, []int{4294967296, 4293918975, 4292870910, 4291823101, 4290775548}},
	} {
		for most := range c.want {
			isTable(t, c.mean, most, c.want[:most+1], api.OK)
		}
	}
}

// TestTablesFallToNone: numbers that come to 0 ahead of the cap stay so.
func TestTablesFallToNone(t *testing.T) {
	two := []int{4294967296, 2863311530, 1908874353, 1272582902, 848388601, 565592400, 377061600, 251374400, 167582933, 111721955, 74481303, 49654202, 33102801, 22068534, 14712356, 9808237, 6538824, 4359216, 2906144, 1937429, 1291619, 861079, 574052, 382701, 255134, 170089, 113392, 75594, 50396, 33597, 22398, 14932, 9954, 6636, 4424, 2949, 1966, 1310, 873, 582, 388, 258, 172, 114, 76, 50, 33, 22, 14, 9, 6, 4, 2, 1, 0}
	var halves []int
	for k := range 33 {
		halves = append(halves, 1<<(32-k))
	}
	for mean, whole := range [][]int{{1 << 32}, halves, two} {
		for _, more := range []int{0, 1, 2, 7, 1000, capMost - len(two)} {
			want := append(slices.Clone(whole), make([]int, more)...)
			isTable(t, mean, len(want)-1, want, api.OK)
			isOf(t, mean, len(want)-1, 0, above(whole, 0), api.OK)
			isOf(t, mean, len(want)-1, 1, above(whole, 1), api.OK)
			isOf(t, mean, len(want)-1, all-1, 0, api.OK)
		}
	}
	isOf(t, 0, capMost, 0, 0, api.OK)
	isOf(t, 1, capMost, 0, 32, api.OK)
	isOf(t, 1, 32, 0, 32, api.OK)
	isOf(t, 1, 31, 0, 31, api.OK)
	isOf(t, 2, capMost, 0, 53, api.OK)
	isOf(t, 2, capMost, 1, 52, api.OK)
	isOf(t, 236, capMost, 0, 4088, api.OK)
	isOf(t, 237, capMost, 0, capMost, api.OK)
}

// TestTablesByHand has the edges of means and caps, each with each.
func TestTablesByHand(t *testing.T) {
	for _, mean := range someMeans() {
		whole := byHand(mean, capMost)
		for _, most := range someCaps() {
			isTable(t, mean, most, whole[:most+1], api.OK)
		}
	}
}

// TestEachMean and TestEachCap leave none out.
func TestEachMean(t *testing.T) {
	for mean := range meanMost + 1 {
		isTable(t, mean, 40, byHand(mean, 40), api.OK)
	}
}

func TestEachCap(t *testing.T) {
	for _, mean := range []int{0, 1, 236, 237, 4096} {
		whole := byHand(mean, capMost)
		for most := range capMost + 1 {
			isTable(t, mean, most, whole[:most+1], api.OK)
		}
	}
}

// TestNextOfEach holds each number of all the longest tables against the one ahead alone: it is the greatest whole one that, times the mean and one, is not above that one times the mean.
func TestNextOfEach(t *testing.T) {
	for mean := range meanMost + 1 {
		l, e := delay.Table(mean, capMost)
		if len(l) != capMost+1 || l[0] != all || e != api.OK {
			t.Fatalf("mean %d: %d numbers, error %d", mean, len(l), e)
		}
		for k := 1; k < len(l); k++ {
			if over := l[k-1]*mean - l[k]*(mean+1); over < 0 || over > mean {
				t.Fatalf("mean %d: %d behind %d, at %d", mean, l[k], l[k-1], k)
			}
		}
	}
}

func TestTableRefuses(t *testing.T) {
	for _, mean := range wrongMeans() {
		for _, most := range append(wrongCaps(), someCaps()...) {
			isTable(t, mean, most, nil, api.ErrRange)
		}
	}
	for _, most := range wrongCaps() {
		for _, mean := range someMeans() {
			isTable(t, mean, most, nil, api.ErrRange)
		}
	}
}

// aroundEach is the words at each of a table's numbers, one below and one above, and the edges of words.
func aroundEach(r []int) []int {
	l := []int{0, 1, 2, 1<<31 - 1, 1 << 31, 1<<31 + 1, all - 2, all - 1}
	for _, x := range r {
		for _, u := range []int{x - 1, x, x + 1} {
			if u >= 0 && u < all {
				l = append(l, u)
			}
		}
	}
	slices.Sort(l)
	return slices.Compact(l)
}

func TestOfAroundEach(t *testing.T) {
	for _, mean := range someMeans() {
		for _, most := range []int{0, 1, 2, 3, 4, 32, 33, 34, 100, 255} {
			r := byHand(mean, most)
			for _, u := range aroundEach(r) {
				isOf(t, mean, most, u, above(r, u), api.OK)
			}
		}
	}
}

// TestOfAroundEachOfLong has the longest tables.
func TestOfAroundEachOfLong(t *testing.T) {
	for _, mean := range longMeans() {
		r := byHand(mean, capMost)
		for i, u := range aroundEach(r) {
			if i < 200 || i%7 == 0 || u > all-1<<22 {
				isOf(t, mean, capMost, u, above(r, u), api.OK)
				isOf(t, mean, capMost-1, u, above(r[:capMost], u), api.OK)
			}
		}
	}
}

// TestOfByHand has words whose delays were told by the tables above.
func TestOfByHand(t *testing.T) {
	for _, c := range []struct{ mean, most, u, want int }{
		{0, 0, 0, 0}, {0, 0, all - 1, 0}, {0, 1, 0, 0}, {0, capMost, 0, 0}, {0, capMost, 1 << 31, 0},
		{1, 0, 0, 0}, {1, 1, 0, 1}, {1, 1, 1<<31 - 1, 1}, {1, 1, 1 << 31, 0}, {1, 2, 0, 2}, {1, 2, 1<<30 - 1, 2}, {1, 2, 1 << 30, 1},
		{1, 40, 1, 31}, {1, 40, 2, 30}, {1, 40, 3, 30}, {1, 40, 4, 29}, {1, 40, 1<<16 - 1, 16}, {1, 40, 1 << 16, 15},
		{2, 4, 0, 4}, {2, 4, 848388600, 4}, {2, 4, 848388601, 3}, {2, 4, 1272582901, 3}, {2, 4, 1272582902, 2}, {2, 4, 1908874353, 1}, {2, 4, 2863311529, 1}, {2, 4, 2863311530, 0}, {2, 4, all - 1, 0},
		{4, 5, 1407374881, 5}, {4, 5, 1407374882, 4}, {4, 4, 1407374881, 4}, {4, 5, 3435973835, 1}, {4, 5, 3435973836, 0},
		{4095, 4, 4293918719, 1}, {4095, 4, 4293918720, 0}, {4095, 4, 4290774525, 4}, {4095, 4, 4290774526, 3},
		{4096, 4, 4293918974, 1}, {4096, 4, 4293918975, 0}, {4096, 4, 4290775547, 4}, {4096, 4, 4290775548, 3}, {4096, capMost, 0, capMost}, {4095, capMost, 1, capMost},
	} {
		isOf(t, c.mean, c.most, c.u, c.want, api.OK)
	}
}

func TestOfRefuses(t *testing.T) {
	caps := append(wrongCaps(), 0, 1, 3, api.MaxDelay)
	many := append(wrongWords(), 0, 1, 1<<31, all-1)
	for _, mean := range append(wrongMeans(), 0, 1, 3, 4096) {
		for _, most := range caps {
			for _, u := range many {
				if isWrong(mean, meanMost) || isWrong(most, capMost) || isWrong(u, all-1) {
					isOf(t, mean, most, u, 0, api.ErrRange)
				}
			}
		}
	}
}

// Promise 13.2.

// TestDraws has one delay behind the other from one tape.
func TestDraws(t *testing.T) {
	s := words(0, all-1, 1<<31, 1<<31-1, 1<<30-1, 848388600, 848388601, 1<<32-1<<20) + "xyz"
	x := tape.New(s)
	for i, c := range []struct{ mean, most, want int }{
		{1, 9, 9}, {4096, 4096, 0}, {1, 3, 0}, {1, 3, 1}, {1, 3, 2}, {2, 4, 4}, {2, 4, 3}, {4095, 7, 0},
	} {
		isDraw(t, x, c.mean, c.most, c.want, api.OK)
		has(t, x, s[4*i+4:])
	}
	isDraw(t, x, 1, 3, 0, api.ErrTape)
	has(t, x, "xyz")
}

// TestDrawIsOfTheNextWord has drawn tapes, and one tape beside that tells the words.
func TestDrawIsOfTheNextWord(t *testing.T) {
	for seed := range int64(20) {
		s := drawn(seed, 400)
		x, beside := tape.New(s), tape.New(s)
		for i := range 100 {
			mean := someMeans()[i%len(someMeans())]
			most := someCaps()[(i+int(seed))%len(someCaps())]
			u, _ := beside.Word()
			isDraw(t, x, mean, most, above(byHand(mean, most), u), api.OK)
			has(t, x, s[4*i+4:])
		}
		isDraw(t, x, 1, 1, 0, api.ErrTape)
	}
}

func TestDrawAtTheEnd(t *testing.T) {
	for _, c := range []struct {
		text string
		want int
		e    api.Errno
	}{
		{"", 0, api.ErrTape}, {"\x00", 0, api.ErrTape}, {zeros(2), 0, api.ErrTape}, {zeros(3), 0, api.ErrTape}, {"abc", 0, api.ErrTape},
		{zeros(4), 9, api.OK}, {zeros(5), 9, api.OK}, {zeros(7), 9, api.OK}, {zeros(8), 9, api.OK},
	} {
		x := tape.New(c.text)
		isDraw(t, x, 1, 9, c.want, c.e)
		if c.e == api.OK {
			has(t, x, c.text[4:])
		} else {
			has(t, x, c.text)
		}
	}
	for _, mean := range someMeans() {
		for _, most := range someCaps() {
			x := tape.New("abc")
			isDraw(t, nil, mean, most, 0, api.ErrTape)
			isDraw(t, x, mean, most, 0, api.ErrTape)
			has(t, x, "abc")
		}
	}
}

// TestDrawReadsAlways a word, also where there is but one delay.
func TestDrawReadsAlways(t *testing.T) {
	for _, c := range [][2]int{{0, 0}, {0, 9}, {9, 0}, {4096, 0}, {0, 4096}} {
		s := drawn(3, 9)
		x := tape.New(s)
		isDraw(t, x, c[0], c[1], 0, api.OK)
		has(t, x, s[4:])
		isSeveral(t, x, c[1], []int{c[0]}, []int{0}, api.OK)
		has(t, x, s[8:])
		isDraw(t, x, c[0], c[1], 0, api.ErrTape)
		has(t, x, s[8:])
	}
}

// tapeTexts are of no word, of a part of one, of one, and of more than any call reads.
func tapeTexts() []string {
	return []string{"", "a", "abc", "abcd", "abcde", drawn(1, 255), drawn(2, 256), drawn(3, 257), drawn(4, 1000)}
}

func TestDrawRefuses(t *testing.T) {
	for _, s := range tapeTexts() {
		x := tape.New(s)
		for _, mean := range wrongMeans() {
			for _, most := range []int{0, 1, 3, capMost, capMost + 1, -1} {
				isDraw(t, x, mean, most, 0, api.ErrRange)
				isDraw(t, nil, mean, most, 0, api.ErrRange)
			}
			has(t, x, s)
		}
		for _, most := range wrongCaps() {
			for _, mean := range []int{0, 1, 3, meanMost, meanMost + 1, -1} {
				isDraw(t, x, mean, most, 0, api.ErrRange)
				isDraw(t, nil, mean, most, 0, api.ErrRange)
			}
			has(t, x, s)
		}
	}
}

// TestSeveralByHand has delays that were told by the tables above.
func TestSeveralByHand(t *testing.T) {
	s := words(0, all-1, 1<<30, 1<<31, 1<<31-1, 848388600, 2863311530) + "ab"
	x := tape.New(s)
	isSeveral(t, x, 4, nil, nil, api.OK)
	has(t, x, s)
	isSeveral(t, x, 4, []int{2, 2, 1}, []int{4, 0, 1}, api.OK)
	has(t, x, s[12:])
	isSeveral(t, x, 3, []int{1}, []int{0}, api.OK)
	has(t, x, s[16:])
	isSeveral(t, x, 9, []int{1, 2, 2, 0}, nil, api.ErrTape)
	has(t, x, s[16:])
	isSeveral(t, x, 4, []int{1, 2, 2}, []int{1, 4, 0}, api.OK)
	has(t, x, "ab")
	isSeveral(t, x, 4, []int{}, nil, api.OK)
	isSeveral(t, x, 4, []int{1}, nil, api.ErrTape)
	has(t, x, "ab")
}

// TestSeveralOfEachLength has just enough bytes, one and more fewer, and more.
func TestSeveralOfEachLength(t *testing.T) {
	for many := range several + 1 {
		means := make([]int, many)
		for i := range means {
			means[i] = someMeans()[(i+many)%len(someMeans())]
		}
		for _, long := range []int{0, 3, 4*many - 4, 4*many - 1, 4 * many, 4*many + 1, 4*many + 4} {
			if long < 0 {
				continue
			}
			s := drawn(int64(many), long)
			x, p := tape.New(s), plain{left: s}
			want, e := p.draw(20, means...)
			if (e == api.OK) != (long >= 4*many) || len(want) != many && e == api.OK {
				t.Fatalf("%d means, %d bytes: error %d", many, long, e)
			}
			isSeveral(t, x, 20, means, want, e)
			has(t, x, p.left)
		}
	}
}

// TestSeveralOfMany refuses more than 64, whatever the tape has.
func TestSeveralOfMany(t *testing.T) {
	s := drawn(5, 2000)
	for _, many := range []int{65, 66, 100, 128, 256, 320, 1 << 16} {
		means := slices.Repeat([]int{3}, many)
		x := tape.New(s)
		isSeveral(t, x, 9, means, nil, api.ErrRange)
		isSeveral(t, x, -1, means, nil, api.ErrRange)
		isSeveral(t, nil, 9, means, nil, api.ErrRange)
		isSeveral(t, tape.New(""), 9, means, nil, api.ErrRange)
		has(t, x, s)
		p := plain{left: s}
		want, e := p.draw(9, means[:64]...)
		isSeveral(t, x, 9, means[:64], want, e)
		has(t, x, s[256:])
	}
}

func TestSeveralOfNone(t *testing.T) {
	for _, s := range tapeTexts() {
		x := tape.New(s)
		for _, most := range someCaps() {
			isSeveral(t, x, most, nil, nil, api.OK)
			isSeveral(t, x, most, []int{}, nil, api.OK)
			isSeveral(t, nil, most, nil, nil, api.ErrTape)
		}
		for _, most := range wrongCaps() {
			isSeveral(t, x, most, nil, nil, api.ErrRange)
			isSeveral(t, nil, most, nil, nil, api.ErrRange)
		}
		has(t, x, s)
	}
}

// TestSeveralWithoutTape has no tape, or too short a one; what is wrong besides is told first.
func TestSeveralWithoutTape(t *testing.T) {
	for many := range several + 1 {
		means := slices.Repeat([]int{7}, many)
		isSeveral(t, nil, 5, means, nil, api.ErrTape)
		isSeveral(t, nil, -1, means, nil, api.ErrRange)
		isSeveral(t, nil, capMost+1, means, nil, api.ErrRange)
		if many > 0 {
			x := tape.New(zeros(4*many - 1))
			isSeveral(t, x, 5, means, nil, api.ErrTape)
			isSeveral(t, x, -1, means, nil, api.ErrRange)
			means[many-1] = meanMost + 1
			isSeveral(t, x, 5, means, nil, api.ErrRange)
			isSeveral(t, nil, 5, means, nil, api.ErrRange)
			has(t, x, zeros(4*many-1))
		}
	}
}

// TestOneWrongMean is refused wherever it stands.
func TestOneWrongMean(t *testing.T) {
	for _, many := range []int{1, 2, 3, 5, 33, 63, 64} {
		for _, at := range []int{0, many / 2, many - 1} {
			for _, wrong := range wrongMeans() {
				means := slices.Repeat([]int{2}, many)
				means[at] = wrong
				for _, s := range []string{"", "abc", drawn(6, 4*many-1), drawn(7, 4*many), drawn(8, 300)} {
					x := tape.New(s)
					isSeveral(t, x, 9, means, nil, api.ErrRange)
					isSeveral(t, x, -1, means, nil, api.ErrRange)
					has(t, x, s)
				}
				isSeveral(t, nil, 9, means, nil, api.ErrRange)
			}
		}
	}
}

func TestSeveralWrongCap(t *testing.T) {
	s := drawn(9, 300)
	for _, most := range wrongCaps() {
		for _, means := range [][]int{nil, {0}, {1, 2, 3}, slices.Repeat([]int{4096}, 64), {-1}, {4097, 0}} {
			x := tape.New(s)
			isSeveral(t, x, most, means, nil, api.ErrRange)
			isSeveral(t, nil, most, means, nil, api.ErrRange)
			has(t, x, s)
		}
	}
}

// TestSeveralIsDrawsInTurn: drawn at once or one behind the other, they are the same, and so is what is left.
func TestSeveralIsDrawsInTurn(t *testing.T) {
	for seed := range int64(40) {
		by := rand.New(rand.NewSource(seed))
		s := drawn(-seed, 300)
		x := tape.New(s)
		f, g := x.Fork(), x.Fork()
		most := someCaps()[by.Intn(len(someCaps()))]
		means := make([]int, by.Intn(several+1))
		for i := range means {
			means[i] = by.Intn(1 + by.Intn(meanMost+1))
		}
		l, e := delay.Several(x, most, means...)
		if len(l) != len(means) || e != api.OK {
			t.Fatalf("%d delays of %d, error %d", len(l), len(means), e)
		}
		for i, n := range l {
			isDraw(t, f, means[i], most, n, api.OK)
			u, _ := g.Word()
			isOf(t, means[i], most, u, n, api.OK)
		}
		has(t, x, s[4*len(means):])
		has(t, f, s[4*len(means):])
	}
}

// TestAsPlain plays drawn calls with a tape by the chapter's words beside, forks of both among them.
func TestAsPlain(t *testing.T) {
	told := map[api.Errno]int{}
	pick := func(by *rand.Rand, wrong []int) int {
		switch k := by.Intn(40); {
		case k == 0:
			return wrong[by.Intn(len(wrong))]
		case k == 1:
			return []int{-1, 0, 1, 2, 4095, 4096, 4097}[by.Intn(7)]
		}
		return by.Intn(1 + by.Intn(300))
	}
	for seed := range int64(100) {
		by := rand.New(rand.NewSource(seed))
		s := drawn(100+seed, by.Intn(1<<by.Intn(12)))
		l, ps := []*tape.Tape{tape.New(s), nil}, []*plain{{left: s}, {none: true}}
		for range 60 {
			i := by.Intn(len(l))
			if l[i] != nil && by.Intn(20) == 0 {
				l, ps = append(l, l[i].Fork()), append(ps, &plain{left: ps[i].left})
			}
			most := pick(by, wrongCaps())
			means := make([]int, by.Intn(1+by.Intn(8)))
			for k := range means {
				means[k] = pick(by, wrongMeans())
			}
			want, e := ps[i].draw(most, means...)
			isSeveral(t, l[i], most, means, want, e)
			told[e]++
			mean := pick(by, wrongMeans())
			want, e = ps[i].draw(most, mean)
			isDraw(t, l[i], mean, most, append(want, 0)[0], e)
			told[e]++
			for j, x := range l {
				if x != nil {
					has(t, x, ps[j].left)
				}
			}
		}
	}
	for _, e := range []api.Errno{api.OK, api.ErrRange, api.ErrTape} {
		if told[e] < 500 {
			t.Errorf("the error %d was told %d times: too few", e, told[e])
		}
	}
	if len(told) != 3 {
		t.Errorf("the errors told: %v", told)
	}
}

// Promise 13.3.

// TestGreaterWords have no greater delays, and none is above the cap.
func TestGreaterWords(t *testing.T) {
	by := rand.New(rand.NewSource(1))
	for _, mean := range someMeans() {
		for _, most := range someCaps() {
			l := []int{0, 1, 1<<31 - 1, 1 << 31, all - 1}
			for range 60 {
				l = append(l, by.Intn(all), by.Intn(1+by.Intn(all)), by.Intn(1<<by.Intn(32)))
			}
			slices.Sort(l)
			last := most
			for _, u := range l {
				n, e := delay.Of(mean, most, u)
				if n < 0 || n > last || e != api.OK {
					t.Fatalf("Of(%d, %d, %d): %d, error %d; want at most %d", mean, most, u, n, e, last)
				}
				last = n
			}
		}
	}
}

// manyOrMore searches how many words have a delay of k or more, by Of alone: they are the first ones, as greater words have no greater delays.
func manyOrMore(t *testing.T, mean, most, k int) int {
	low, high := 0, all
	for low < high {
		u := (low + high) / 2
		n, e := delay.Of(mean, most, u)
		if e != api.OK {
			t.Fatalf("Of(%d, %d, %d): error %d", mean, most, u, e)
		}
		if n >= k {
			low = u + 1
		} else {
			high = u
		}
	}
	return low
}

// TestWordsOfEachDelay: they are as many as the table says, and together all.
func TestWordsOfEachDelay(t *testing.T) {
	for _, c := range [][2]int{{0, 0}, {0, 5}, {1, 0}, {1, 1}, {1, 3}, {1, 40}, {2, 60}, {5, 130}, {10, 255}, {4095, 100}, {4096, 0}, {4096, 100}} {
		mean, most := c[0], c[1]
		r, e := delay.Table(mean, most)
		if len(r) != most+1 || e != api.OK {
			t.Fatalf("Table(%d, %d): %d numbers, error %d", mean, most, len(r), e)
		}
		together := 0
		for k := range most + 1 {
			many := manyOrMore(t, mean, most, k)
			if many != r[k] {
				t.Fatalf("mean %d, cap %d: %d words have a delay of %d or more; the table says %d", mean, most, many, k, r[k])
			}
			together += many - manyOrMore(t, mean, most, k+1)
		}
		if together != all || manyOrMore(t, mean, most, most+1) != 0 {
			t.Fatalf("mean %d, cap %d: %d words in all", mean, most, together)
		}
	}
}

// TestWordsOfTheLast: at the longest tables too, all words that are left have the cap.
func TestWordsOfTheLast(t *testing.T) {
	for _, mean := range longMeans() {
		r, _ := delay.Table(mean, capMost)
		for _, k := range []int{1, 2, 2048, capMost - 1, capMost} {
			if many := manyOrMore(t, mean, capMost, k); many != r[k] {
				t.Fatalf("mean %d: %d words have a delay of %d or more; the table says %d", mean, many, k, r[k])
			}
		}
		if many := manyOrMore(t, mean, capMost, capMost+1); many != 0 {
			t.Fatalf("mean %d: %d words have a delay above the cap", mean, many)
		}
	}
}

// TestCapCutsOff: a smaller cap changes the delays above it alone.
func TestCapCutsOff(t *testing.T) {
	by := rand.New(rand.NewSource(2))
	for _, mean := range someMeans() {
		for range 100 {
			u := by.Intn(1 + by.Intn(all))
			whole, _ := delay.Of(mean, capMost, u)
			for _, most := range someCaps() {
				isOf(t, mean, most, u, min(whole, most), api.OK)
			}
		}
	}
}

// Rules that hold everywhere.

// overwrite writes over a list, and over what lies behind its length.
func overwrite(l []int) {
	l = l[:cap(l)]
	for i := range l {
		l[i] = -7
	}
}

// TestAnswersAreNew: lists that were answered are written over, and no other answer changes.
func TestAnswersAreNew(t *testing.T) {
	for _, most := range someCaps() {
		want := byHand(9, most)
		one, _ := delay.Table(9, most)
		two, _ := delay.Table(9, most)
		overwrite(one)
		if !slices.Equal(two, want) {
			t.Fatalf("cap %d: another answer changed", most)
		}
		isTable(t, 9, most, want, api.OK)
		isOf(t, 9, most, 1<<31, above(want, 1<<31), api.OK)
		overwrite(two)
		isOf(t, 9, most, 0, above(want, 0), api.OK)
		isDraw(t, tape.New(zeros(4)), 9, most, above(want, 0), api.OK)
		isTable(t, 9, most, want, api.OK)
	}
	s := drawn(10, 1000)
	x, p := tape.New(s), plain{left: s}
	means := []int{3, 1, 4, 1, 5, 9, 2, 6}
	first, _ := p.draw(99, means...)
	second, _ := p.draw(99, means...)
	third, _ := p.draw(99, means...)
	one, _ := delay.Several(x, 99, means...)
	two, _ := delay.Several(x, 99, means...)
	if !slices.Equal(one, first) {
		t.Fatalf("%v; want %v", one, first)
	}
	overwrite(one)
	if !slices.Equal(two, second) {
		t.Fatalf("%v; want %v", two, second)
	}
	isSeveral(t, x, 99, means, third, api.OK)
	isSeveral(t, tape.New(s), 99, means, first, api.OK)
}

// TestMeansStayAsTheyWere, with what lies behind their length, which is not read either.
func TestMeansStayAsTheyWere(t *testing.T) {
	s := drawn(11, 1000)
	for _, wrong := range []int{2, -1, meanMost + 1} {
		for _, most := range []int{9, -1} {
			room := []int{1, 2, wrong, 4, 5, -1, 4097, math.MinInt, 8}
			before := slices.Clone(room)
			p := plain{left: s}
			want, e := p.draw(most, room[:5]...)
			l, gotE := delay.Several(tape.New(s), most, room[:5]...)
			if !slices.Equal(l, want) || gotE != e {
				t.Fatalf("%v, error %d; want %v, error %d", l, gotE, want, e)
			}
			overwrite(l)
			if !slices.Equal(room, before) {
				t.Fatalf("the list became %v; it was %v", room, before)
			}
		}
	}
}

// TestMeansAreNotKept: a list that is written anew later does not show.
func TestMeansAreNotKept(t *testing.T) {
	s := drawn(12, 1000)
	x, p := tape.New(s), plain{left: s}
	means := []int{3, 30, 300, 3000}
	want, _ := p.draw(500, means...)
	next, _ := p.draw(500, 7, 7)
	l, _ := delay.Several(x, 500, means...)
	overwrite(means)
	if !slices.Equal(l, want) {
		t.Fatalf("%v; want %v", l, want)
	}
	isSeveral(t, x, 500, []int{7, 7}, next, api.OK)
}

// TestForksAreLeftAlone: a delay is drawn from the one tape that was handed in.
func TestForksAreLeftAlone(t *testing.T) {
	s := drawn(13, 100)
	x := tape.New(s)
	f := x.Fork()
	p := plain{left: s}
	want, _ := p.draw(50, 5, 6, 7)
	isSeveral(t, x, 50, []int{5, 6, 7}, want, api.OK)
	has(t, f, s)
	isDraw(t, f, 5, 50, want[0], api.OK)
	has(t, x, s[12:])
	isSeveral(t, f, 50, []int{6, 7}, want[1:], api.OK)
	has(t, f, s[12:])
}

// TestCallsDoNotTouch: calls at the same time tell what they tell one after the other.
func TestCallsDoNotTouch(t *testing.T) {
	var everyone sync.WaitGroup
	for k := range 8 {
		everyone.Go(func() {
			s := drawn(int64(k), 400)
			x, p := tape.New(s), plain{left: s}
			for i := range 30 {
				most, means := 10*k+i, []int{k, i, k + i}
				want, _ := p.draw(most, means...)
				l, e := delay.Several(x, most, means...)
				r, e2 := delay.Table(i, most)
				if !slices.Equal(l, want) || !slices.Equal(r, byHand(i, most)) || e != api.OK || e2 != api.OK {
					t.Errorf("%v, errors %d, %d; want %v", l, e, e2, want)
				}
			}
		})
	}
	everyone.Wait()
}
