package encoder_test

import (
	"math"
	"math/rand/v2"
	"slices"
	"strings"
	"testing"
	"time"
	"unsafe"

	"bucketline/api"
	"bucketline/draws"
	"bucketline/encoder"
	"bucketline/packet"
	"bucketline/soliton"
)

// oddInts are numbers at the ends of what an int may be, and such as a smaller kind of number would take for others.
var oddInts = []int{
	math.MinInt, math.MinInt + 1, math.MinInt + 128, -1 << 62, -1 << 44, -1<<32 - 1, -1 << 32, -1<<32 + 1, -1<<32 + 5, -1 << 31, -129, -128, -2, -1, 0, 1, 2,
	1<<31 - 1, 1 << 31, 1<<32 - 2, 1<<32 - 1, 1 << 32, 1<<32 + 1, 1<<32 + 5, 1<<32 + 128, 1 << 44, 1 << 62, math.MaxInt - 1, math.MaxInt,
}

// model is a source as the chapter says it: the numbers of New, and the text with bytes 0 behind.
type model struct {
	object, length, k, size, spread int
	filled                          string
}

// modelled gives what New has to answer.
func modelled(object int, s string, size, spread int) (*model, api.Errno) {
	if object < 0 || object > 4294967295 || spread < 0 || size < 1 || size > 64 {
		return nil, api.ErrArg
	}
	k := 1
	for k*size < len(s) {
		k++
	}
	if k > 128 {
		return nil, api.ErrSize
	}
	return &model{object, len(s), k, size, spread, s + strings.Repeat("\x00", k*size-len(s))}, api.OK
}

func (m *model) blocks() []string {
	var out []string
	for at := 0; at < len(m.filled); at += m.size {
		out = append(out, m.filled[at:at+m.size])
	}
	return out
}

// emit gives the packet that d says, and its degree, by what chapters 10 and 11 promise.
func (m *model) emit(d *draws.Draws) (api.Packet, int) {
	spread := m.spread
	if spread > m.k {
		spread = m.k
	}
	degree := soliton.Pick(soliton.Table(m.k, spread), d.Next())
	vec := make([]uint64, (m.k+63)/64)
	data := make([]byte, m.size)
	for _, i := range d.Distinct(m.k, degree) {
		vec[i/64] |= 1 << (i % 64)
		for j := range data {
			data[j] ^= m.filled[i*m.size+j]
		}
	}
	p := api.Packet{Object: m.object, Len: m.length, K: m.k, Size: m.size, Hops: 0}
	p.Row = api.Row{Vec: vec, Data: string(data)}
	return p, degree
}

// equal tells whether two packets are alike to the last word.
func equal(p, q api.Packet) bool {
	return p.Object == q.Object && p.Len == q.Len && p.K == q.K && p.Size == q.Size && p.Hops == q.Hops &&
		slices.Equal(p.Row.Vec, q.Row.Vec) && p.Row.Data == q.Row.Data
}

// made gives n bytes, the same ones at each run; bytes 0 are among them, at the end too.
func made(draw *rand.Rand, n int) string {
	out := make([]byte, n)
	for i := range out {
		out[i] = byte(draw.Uint32()) & byte(draw.Uint32())
	}
	return string(out)
}

// list gives n draws, great ones and small ones.
func list(draw *rand.Rand, n int) []uint64 {
	out := make([]uint64, n)
	for i := range out {
		out[i] = draw.Uint64() >> draw.IntN(64)
	}
	return out
}

// source gives a source where there is no error, and its model.
func source(t *testing.T, object int, s string, size, spread int) (*encoder.Source, *model) {
	t.Helper()
	got, err := encoder.New(object, s, size, spread)
	m, _ := modelled(object, s, size, spread)
	if got == nil || m == nil || err != api.OK {
		t.Fatalf("New(%d, %d bytes, %d, %d): %v, %d", object, len(s), size, spread, got, err)
	}
	return got, m
}

// checkNew fails, unless New answers as it has to, with the blocks that it has to.
func checkNew(t *testing.T, object int, s string, size, spread int) {
	t.Helper()
	got, err := encoder.New(object, s, size, spread)
	m, want := modelled(object, s, size, spread)
	if err != want || (got == nil) != (want != api.OK) {
		t.Fatalf("New(%d, %d bytes, %d, %d): %v, %d, not %d", object, len(s), size, spread, got, err, want)
	}
	if m == nil {
		return
	}
	if got.K() != m.k {
		t.Errorf("K of %d bytes by %d: %d, not %d", len(s), size, got.K(), m.k)
	}
	if blocks := got.Blocks(); !slices.Equal(blocks, m.blocks()) {
		t.Errorf("Blocks of %d bytes by %d: %q, not %q", len(s), size, blocks, m.blocks())
	}
}

// checkEmit fails, unless the source gives the packet that the list says, may send it, and uses as many draws as it has to.
func checkEmit(t *testing.T, s *encoder.Source, m *model, l []uint64) api.Packet {
	t.Helper()
	d := draws.New(l)
	got := s.Emit(d)
	want, degree := m.emit(draws.New(l))
	if !equal(got, want) {
		t.Fatalf("of %d blocks of %d, spread %d, Emit of %v: %v, not %v", m.k, m.size, m.spread, l, got, want)
	}
	if d.Used() != 1+degree {
		t.Fatalf("of %d blocks, degree %d: %d draws used", m.k, degree, d.Used())
	}
	if err := packet.Check(got); err != api.OK {
		t.Fatalf("Check of %v: %d", got, err)
	}
	return got
}

func TestNew(t *testing.T) {
	most := strings.Repeat("m", 128)
	for _, c := range []struct {
		object       int
		s            string
		size, spread int
		want         api.Errno
		blocks       []string
	}{
		{7, "abcde", 2, 0, api.OK, []string{"ab", "cd", "e\x00"}},
		{7, "abcd", 2, 0, api.OK, []string{"ab", "cd"}},
		{7, "abc", 3, 0, api.OK, []string{"abc"}},
		{7, "abc", 4, 0, api.OK, []string{"abc\x00"}},
		{7, "abc", 1, 0, api.OK, []string{"a", "b", "c"}},
		{7, "a\x00\x00", 2, 0, api.OK, []string{"a\x00", "\x00\x00"}},
		{7, "", 1, 0, api.OK, []string{"\x00"}},
		{7, "", 3, 9, api.OK, []string{"\x00\x00\x00"}},
		{7, "\xff", 64, 0, api.OK, []string{"\xff" + strings.Repeat("\x00", 63)}},
		{7, most, 64, 0, api.OK, []string{most[:64], most[:64]}},
		{7, most, 1, 0, api.OK, strings.Split(most, "")},
		{7, most + "m", 1, 0, api.ErrSize, nil},
		{7, "abc", 0, 0, api.ErrArg, nil},
		{7, "abc", -1, 0, api.ErrArg, nil},
		{7, "abc", 65, 0, api.ErrArg, nil},
		{7, "", 0, 0, api.ErrArg, nil},
		{0, "a", 1, 0, api.OK, []string{"a"}},
		{1<<32 - 1, "a", 1, 0, api.OK, []string{"a"}},
		{1 << 32, "a", 1, 0, api.ErrArg, nil},
		{1<<32 + 1, "a", 1, 0, api.ErrArg, nil},
		{-1, "a", 1, 0, api.ErrArg, nil},
		{math.MaxInt, "a", 1, 0, api.ErrArg, nil},
		{math.MinInt, "a", 1, 0, api.ErrArg, nil},
		{1, "ab", 1, 1, api.OK, []string{"a", "b"}},
		{1, "ab", 1, 2, api.OK, []string{"a", "b"}},
		{1, "ab", 1, 3, api.OK, []string{"a", "b"}},
		{1, "ab", 1, math.MaxInt, api.OK, []string{"a", "b"}},
		{1, "ab", 1, -1, api.ErrArg, nil},
		{1, "ab", 1, math.MinInt, api.ErrArg, nil},
		{math.MaxInt, "ab", math.MaxInt, math.MaxInt, api.ErrArg, nil},
		{math.MinInt, "ab", math.MinInt, math.MinInt, api.ErrArg, nil},
	} {
		s, err := encoder.New(c.object, c.s, c.size, c.spread)
		if err != c.want || (s == nil) != (c.want != api.OK) {
			t.Errorf("New(%d, %q, %d, %d): %v, %d, not %d", c.object, c.s, c.size, c.spread, s, err, c.want)
		}
		if s.K() != len(c.blocks) || !slices.Equal(s.Blocks(), c.blocks) {
			t.Errorf("New(%d, %q, %d, %d): %d blocks, %q, not %q", c.object, c.s, c.size, c.spread, s.K(), s.Blocks(), c.blocks)
		}
	}
}

// R2: where there are too many blocks too, a wrong argument is told, whichever it is: its number is less.
func TestNewTwoErrors(t *testing.T) {
	long := strings.Repeat("x", 129*64)
	if _, err := encoder.New(1, long, 64, 1); err != api.ErrSize {
		t.Fatalf("a text that is too long: %d", err)
	}
	for _, c := range []struct{ object, size, spread int }{
		{-1, 64, 1}, {1 << 32, 64, 1}, {math.MinInt, 1, 0}, {math.MaxInt, 1, 0}, {1, 64, -1}, {1, 1, math.MinInt}, {-1, 64, -1},
		{1, 0, 1}, {1, 65, 1}, {1, -1, 1}, {1, math.MinInt, 1}, {1, math.MaxInt, 1}, {-1, 0, -1}, {1 << 32, 65, 0},
	} {
		if s, err := encoder.New(c.object, long, c.size, c.spread); s != nil || err != api.ErrArg {
			t.Errorf("New(%d, a long text, %d, %d): %v, %d", c.object, c.size, c.spread, s, err)
		}
	}
}

// Every object, size and spread near its bounds and at the ends of what an int may be, with a text that is short and one that is too long.
func TestNewAll(t *testing.T) {
	sizes := append([]int{3, 5, 63, 64, 65, 66, 127, 129}, oddInts...)
	for _, object := range oddInts {
		for _, spread := range oddInts {
			for _, size := range sizes {
				checkNew(t, object, "abcdefg", size, spread)
				checkNew(t, object, "", size, spread)
				checkNew(t, object, strings.Repeat("y", 129), size, spread)
			}
		}
	}
}

// Of every size, texts that fill their last block, have one byte less and one byte more; up to as many blocks as may be, and one more.
func TestNewEdges(t *testing.T) {
	draw := rand.New(rand.NewPCG(12, 1))
	for size := -1; size <= 66; size++ {
		for _, k := range []int{0, 1, 2, 3, 63, 64, 65, 127, 128, 129} {
			for n := k*size - 1; n <= k*size+1; n++ {
				if n >= 0 {
					checkNew(t, k, made(draw, n), size, k)
				}
			}
		}
	}
}

// The chapter's example: draws 0, i make block i alone, however many blocks there are and whatever the spread.
func TestExamples(t *testing.T) {
	draw := rand.New(rand.NewPCG(12, 2))
	for k := 1; k <= 128; k++ {
		for _, spread := range []int{0, 1, 2, k / 2, k, k + 1, math.MaxInt} {
			s, m := source(t, k, made(draw, k*3), 3, spread)
			for i := range k {
				p := checkEmit(t, s, m, []uint64{0, uint64(i)})
				want := make([]uint64, (k+63)/64)
				want[i/64] = 1 << (i % 64)
				if !slices.Equal(p.Row.Vec, want) || p.Row.Data != s.Blocks()[i] {
					t.Fatalf("of %d, block %d: %x %q", k, i, p.Row.Vec, p.Row.Data)
				}
			}
		}
	}
}

func TestEmit(t *testing.T) {
	const greatest = math.MaxUint64
	for _, c := range []struct {
		s            string
		size, spread int
		l            []uint64
		k            int
		vec          uint64
		data         string
		used         int
	}{
		// The shares of 3 blocks are 349525, 524288, 174762: each degree's first and last draw.
		{"abcde", 2, 0, []uint64{0, 1}, 3, 2, "cd", 2},
		{"abcde", 2, 0, []uint64{349524, 2}, 3, 4, "e\x00", 2},
		{"abcde", 2, 0, []uint64{349525, 2, 1}, 3, 6, "\x06d", 3},
		{"abcde", 2, 0, []uint64{400000, 0, 0}, 3, 3, "\x02\x06", 3},
		{"abcde", 2, 0, []uint64{873812, 1, 1}, 3, 6, "\x06d", 3},
		{"abcde", 2, 0, []uint64{873813, 5, 5, 5}, 3, 7, "g\x06", 4},
		{"abcde", 2, 0, []uint64{1048574, 0, 0, 0}, 3, 7, "g\x06", 4},
		{"abcde", 2, 0, []uint64{1048575, 1}, 3, 2, "cd", 2},
		// Great draws, such too as would be below 0 as an int.
		{"abcde", 2, 0, []uint64{greatest, greatest}, 3, 1, "ab", 2},
		{"abcde", 2, 0, []uint64{greatest - 16, greatest, greatest, greatest}, 3, 7, "g\x06", 4},
		{"abcde", 2, 0, []uint64{1 << 63, 5}, 3, 4, "e\x00", 2},
		// Behind the list, at its very beginning and within a packet.
		{"abcde", 2, 0, nil, 3, 2, "cd", 2},
		{"abcde", 2, 0, []uint64{500000}, 3, 6, "\x06d", 3},
		{"abcde", 2, 0, []uint64{500000, 1}, 3, 6, "\x06d", 3},
		{"abcde", 2, 0, []uint64{900000}, 3, 7, "g\x06", 4},
		{"abcdefghijkl", 3, 0, nil, 4, 12, "\r\x03\x05", 3},
		{"abcdefghijkl", 1, 3, nil, 12, 0xf75, "b", 10},
		// Each spread makes another degree of the draw; beyond K it is as at K.
		{"abcde", 2, 0, []uint64{2000000, 0, 0, 0}, 3, 7, "g\x06", 4},
		{"abcde", 2, 1, []uint64{2000000, 0, 0, 0}, 3, 1, "ab", 2},
		{"abcde", 2, 2, []uint64{2000000, 0, 0, 0}, 3, 3, "\x02\x06", 3},
		{"abcde", 2, 3, []uint64{2000000, 0, 0, 0}, 3, 1, "ab", 2},
		{"abcde", 2, 4, []uint64{2000000, 0, 0, 0}, 3, 1, "ab", 2},
		{"abcde", 2, 1 << 32, []uint64{2000000, 0, 0, 0}, 3, 1, "ab", 2},
		{"abcde", 2, math.MaxInt, []uint64{2000000, 0, 0, 0}, 3, 1, "ab", 2},
		// One block: it is taken by a draw, too.
		{"", 1, 0, nil, 1, 1, "\x00", 2},
		{"", 3, 7, []uint64{5, 5}, 1, 1, "\x00\x00\x00", 2},
		{"abc", 64, 0, []uint64{greatest, greatest}, 1, 1, "abc" + strings.Repeat("\x00", 61), 2},
		{"ab", 1, 0, []uint64{524287, 1}, 2, 2, "b", 2},
		{"ab", 1, 0, []uint64{524288, 0, 0}, 2, 3, "\x03", 3},
		// Blocks that are alike make a text of bytes 0, as long as they are.
		{"abab", 2, 0, []uint64{524288, 0, 0}, 2, 3, "\x00\x00", 3},
	} {
		s, m := source(t, 7, c.s, c.size, c.spread)
		want := api.Packet{Object: 7, Len: len(c.s), K: c.k, Size: c.size, Row: api.Row{Vec: []uint64{c.vec}, Data: c.data}}
		d := draws.New(c.l)
		if got := s.Emit(d); !equal(got, want) || d.Used() != c.used {
			t.Errorf("of %q by %d, spread %d, Emit of %v: %v by %d draws, not %v by %d", c.s, c.size, c.spread, c.l, got, d.Used(), want, c.used)
		}
		checkEmit(t, s, m, c.l)
	}
}

// Object, Len, K, Size and Hops of each packet, at the bounds of each and within.
func TestEmitNumbers(t *testing.T) {
	for _, object := range []int{0, 1, 255, 1 << 16, 1 << 31, 1<<32 - 2, 1<<32 - 1} {
		for _, size := range []int{1, 2, 63, 64} {
			for _, n := range []int{0, 1, size - 1, size, size + 1, 64*size - 1, 64 * size, 64*size + 1, 127*size + 1, 128*size - 1, 128 * size} {
				s, m := source(t, object, strings.Repeat("n", n), size, 3)
				p := checkEmit(t, s, m, []uint64{3, 4, 5})
				if p.Object != object || p.Len != n || p.K != s.K() || p.Size != size || p.Hops != 0 {
					t.Errorf("object %d, %d bytes, blocks of %d: %v", object, n, size, p)
				}
			}
		}
	}
}

// Every degree, by the first and the last draw that pick it, of few blocks and of as many as may be; that many bits are set, and that many draws more used.
func TestEmitDegrees(t *testing.T) {
	draw := rand.New(rand.NewPCG(12, 3))
	for _, k := range []int{1, 2, 3, 4, 5, 12, 63, 64, 65, 127, 128} {
		for _, spread := range []int{0, 1, 2, 5, k - 1, k, k + 1, 128, math.MaxInt} {
			s, m := source(t, k, made(draw, k*2-1), 2, spread)
			shares := soliton.Table(k, min(spread, k))
			below := 0
			for i, share := range shares {
				for _, first := range []int{below, below + share - 1} {
					p := checkEmit(t, s, m, append([]uint64{uint64(first)}, list(draw, draw.IntN(140))...))
					if got := ones(p.Row.Vec); got != i+1 {
						t.Fatalf("of %d, spread %d, the draw %d: %d blocks, not %d", k, spread, first, got, i+1)
					}
				}
				below += share
			}
			// Behind all shares they begin anew.
			if got := ones(checkEmit(t, s, m, []uint64{uint64(below)}).Row.Vec); got != 1 {
				t.Errorf("of %d, spread %d, the draw behind all shares: %d blocks", k, spread, got)
			}
		}
	}
}

// ones tells how many bits are set.
func ones(v []uint64) int {
	n := 0
	for i := range 64 * len(v) {
		n += int(v[i/64] >> (i % 64) & 1)
	}
	return n
}

// Every K with every spread that differs, by draws as they come: least, greatest, and behind the end of their list.
func TestEmitAll(t *testing.T) {
	draw := rand.New(rand.NewPCG(12, 4))
	for k := 1; k <= 128; k++ {
		size := 1 + draw.IntN(64)
		text := made(draw, k*size-draw.IntN(size))
		for spread := 0; spread <= k+2; spread++ {
			s, m := source(t, draw.IntN(1<<32), text, size, spread)
			checkEmit(t, s, m, nil)
			checkEmit(t, s, m, make([]uint64, 130))
			checkEmit(t, s, m, slices.Repeat([]uint64{math.MaxUint64}, 130))
			for range 3 {
				checkEmit(t, s, m, list(draw, draw.IntN(8)))
			}
		}
	}
}

// The text of each packet is the xor of just the blocks that its bits say, as Blocks tells them.
func TestEmitEquations(t *testing.T) {
	draw := rand.New(rand.NewPCG(12, 5))
	for range 300 {
		size := 1 + draw.IntN(64)
		s, _ := source(t, 1, made(draw, draw.IntN(128*size+1)), size, draw.IntN(140))
		blocks := s.Blocks()
		for range 10 {
			p := s.Emit(draws.New(list(draw, 5)))
			sum := make([]byte, size)
			for i := range 64 * len(p.Row.Vec) {
				if p.Row.Vec[i/64]>>(i%64)&1 == 0 {
					continue
				}
				for j := range size {
					sum[j] ^= blocks[i][j]
				}
			}
			if p.Row.Data != string(sum) {
				t.Fatalf("blocks %x: %q, not %q", p.Row.Vec, p.Row.Data, sum)
			}
		}
	}
}

// Several packets by the same draws, one behind the other: each goes on where the one ahead of it stopped, behind the list's end too.
func TestSeveral(t *testing.T) {
	s, _ := source(t, 7, "abcde", 2, 0)
	d := draws.New([]uint64{0, 2, 400000, 0, 0, 873813, 0, 0, 0, 0})
	for i, c := range []struct {
		vec  uint64
		data string
		used int
	}{{4, "e\x00", 2}, {3, "\x02\x06", 5}, {7, "g\x06", 9}} {
		p := s.Emit(d)
		if !slices.Equal(p.Row.Vec, []uint64{c.vec}) || p.Row.Data != c.data || d.Used() != c.used {
			t.Errorf("packet %d: %v, and %d draws used", i, p, d.Used())
		}
	}
	draw := rand.New(rand.NewPCG(12, 6))
	for range 50 {
		l := list(draw, draw.IntN(100))
		d, same := draws.New(l), draws.New(l)
		one, first := source(t, 1, made(draw, 1+draw.IntN(500)), 4, draw.IntN(9))
		other, second := source(t, 2, made(draw, 1+draw.IntN(500)), 8, draw.IntN(9))
		for range 40 {
			s, m := one, first
			if draw.IntN(2) == 0 {
				s, m = other, second
			}
			want, _ := m.emit(same)
			if got := s.Emit(d); !equal(got, want) || d.Used() != same.Used() {
				t.Fatalf("%v by %d draws in all, not %v by %d", got, d.Used(), want, same.Used())
			}
		}
	}
}

// Without draws a packet is as of draws from no list, and each one anew.
func TestNoDraws(t *testing.T) {
	s, _ := source(t, 7, "abcde", 2, 0)
	want := api.Packet{Object: 7, Len: 5, K: 3, Size: 2, Row: api.Row{Vec: []uint64{2}, Data: "cd"}}
	for i := range 3 {
		if got := s.Emit(nil); !equal(got, want) {
			t.Errorf("packet %d: %v, not %v", i, got, want)
		}
		s.Emit(draws.New(nil))
		s.Emit(draws.New([]uint64{873813, 1}))
	}
	for k := 1; k <= 128; k++ {
		for _, spread := range []int{0, 1, 3, k, math.MaxInt} {
			s, m := source(t, k, strings.Repeat("abc", k), 3, spread)
			want, _ := m.emit(draws.New(nil))
			for range 3 {
				if got := s.Emit(nil); !equal(got, want) {
					t.Errorf("of %d, spread %d: %v, not %v", k, spread, got, want)
				}
			}
		}
	}
}

// R1: a nil source answers zero values, and uses no draw.
func TestNil(t *testing.T) {
	var s *encoder.Source
	d := draws.New([]uint64{5, 6})
	for range 3 {
		for _, given := range []*draws.Draws{d, nil, draws.New(nil)} {
			if got := s.Emit(given); !equal(got, api.Packet{}) {
				t.Errorf("Emit: %v", got)
			}
			if got := given.Used(); got != 0 {
				t.Errorf("Emit used %d draws", got)
			}
		}
		if got := s.Blocks(); len(got) != 0 {
			t.Errorf("Blocks: %q", got)
		}
		if got := s.K(); got != 0 {
			t.Errorf("K: %d", got)
		}
	}
	if got := d.Next(); got != 5 {
		t.Errorf("the first draw became %d", got)
	}
}

// R4: the text is not changed and not kept, and neither are draws that were used.
func TestHandedIn(t *testing.T) {
	text := []byte("-abcdef-")
	s, err := encoder.New(7, unsafe.String(&text[1], 6), 2, 0)
	if err != api.OK || string(text) != "-abcdef-" {
		t.Fatalf("the text and what lies around it became %q, %d", text, err)
	}
	one, _ := encoder.New(7, unsafe.String(&text[1], 6), 6, 0)
	s.Emit(draws.New([]uint64{400000, 0, 1}))
	one.Emit(nil)
	s.Blocks()
	if string(text) != "-abcdef-" {
		t.Errorf("the text and what lies around it became %q", text)
	}
	clear(text)
	if got := s.Blocks(); !slices.Equal(got, []string{"ab", "cd", "ef"}) {
		t.Errorf("Blocks became %q", got)
	}
	if got := one.Blocks(); !slices.Equal(got, []string{"abcdef"}) {
		t.Errorf("Blocks became %q", got)
	}
	if got := one.Emit(nil).Row.Data; got != "abcdef" {
		t.Errorf("Emit became %q", got)
	}
	l := []uint64{9, 0, 1, 8}
	d := draws.New(l[1:3])
	p := s.Emit(d)
	d.Distinct(128, 128)
	if !slices.Equal(l, []uint64{9, 0, 1, 8}) || p.Row.Data != "cd" || !slices.Equal(p.Row.Vec, []uint64{2}) {
		t.Errorf("the draws and what lies around them became %d, the packet %v", l, p)
	}
}

// shared tells whether two texts have a byte of memory in common.
func shared(a, b string) bool {
	if a == "" || b == "" {
		return false
	}
	from, to := uintptr(unsafe.Pointer(unsafe.StringData(a))), uintptr(unsafe.Pointer(unsafe.StringData(b)))
	return from < to+uintptr(len(b)) && to < from+uintptr(len(a))
}

// R4: what is handed out is new memory, were it one block alone; what is done to it, behind its end too, changes no other answer.
func TestHandedOut(t *testing.T) {
	for _, c := range []struct {
		s    string
		size int
	}{{"", 2}, {"ab", 2}, {"abcde", 2}, {strings.Repeat("ab", 128), 2}, {strings.Repeat("\x00", 300), 64}, {strings.Repeat("x", 65*3), 3}} {
		s, m := source(t, 7, c.s, c.size, 0)
		texts := []string{c.s}
		for range 2 {
			blocks := s.Blocks()
			texts = append(texts, blocks...)
			clear(blocks[:cap(blocks)])
			for _, l := range [][]uint64{{0, 0}, {0, uint64(m.k - 1)}, {600000, 0, 0}} {
				p := checkEmit(t, s, m, l)
				texts = append(texts, p.Row.Data)
				clear(p.Row.Vec[:cap(p.Row.Vec)])
				other := checkEmit(t, s, m, l)
				want := slices.Clone(other.Row.Vec)
				for i := range p.Row.Vec {
					p.Row.Vec[i] = 77
				}
				if !slices.Equal(other.Row.Vec, want) {
					t.Errorf("a row became %x, not %x", other.Row.Vec, want)
				}
			}
		}
		for i, a := range texts {
			for _, b := range texts[:i] {
				if shared(a, b) {
					t.Errorf("%q and %q share memory", a, b)
				}
			}
		}
		if got := s.Blocks(); !slices.Equal(got, m.blocks()) {
			t.Errorf("Blocks became %q, not %q", got, m.blocks())
		}
		if s.K() != m.k {
			t.Errorf("K became %d, not %d", s.K(), m.k)
		}
	}
}

// R5: the same draws make the same packet again, whatever was asked between; and no source changes another.
func TestAgain(t *testing.T) {
	s, m := source(t, 7, "abcdefghij", 3, 2)
	for i := range 5 {
		checkEmit(t, s, m, []uint64{786432, 1, 1})
		checkEmit(t, s, m, []uint64{0, 3})
		other, of := source(t, i, strings.Repeat("z", 20*i), 4, i)
		if other == s {
			t.Fatal("the same source twice")
		}
		checkEmit(t, other, of, []uint64{uint64(i) * 300000})
		encoder.New(-1, "x", 1, 0)
		encoder.New(1, strings.Repeat("x", 129), 1, 0)
		if s.K() != 4 || !slices.Equal(s.Blocks(), []string{"abc", "def", "ghi", "j\x00\x00"}) {
			t.Fatalf("K and Blocks became %d %q", s.K(), s.Blocks())
		}
	}
}

// The limits are those that the tests count by.
func TestLimits(t *testing.T) {
	if api.MaxK != 128 || api.MaxBlock != 64 {
		t.Errorf("MaxK %d, MaxBlock %d", api.MaxK, api.MaxBlock)
	}
}

// R1: long texts are refused soon, and many packets made soon.
func TestLong(t *testing.T) {
	start := time.Now()
	long := strings.Repeat("d", 1<<25)
	if s, err := encoder.New(1, long, 64, 0); s != nil || err != api.ErrSize {
		t.Errorf("a long text: %v, %d", s, err)
	}
	s, m := source(t, 1, long[:128*64], 64, math.MaxInt)
	d, same := draws.New(nil), draws.New(nil)
	for range 20000 {
		want, _ := m.emit(same)
		if got := s.Emit(d); !equal(got, want) {
			t.Fatalf("%v, not %v", got, want)
		}
	}
	if took := time.Since(start); took > 30*time.Second {
		t.Errorf("took %v", took)
	}
}
