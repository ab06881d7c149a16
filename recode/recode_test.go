package recode_test

import (
	"math"
	"math/rand/v2"
	"slices"
	"strings"
	"testing"
	"unsafe"

	"bucketline/api"
	"bucketline/recode"
)

const all = ^uint64(0)

// rows gives rows of one word each.
func rows(l ...uint64) []api.Row {
	out := make([]api.Row, len(l))
	for i, w := range l {
		out[i] = api.Row{Vec: []uint64{w}}
	}
	return out
}

// long gives rows of whatever numbers of words.
func long(l ...[]uint64) []api.Row {
	out := make([]api.Row, len(l))
	for i, v := range l {
		out[i] = api.Row{Vec: v}
	}
	return out
}

// units gives n rows, of one block each, and no two of the same.
func units(n int) []api.Row {
	out := make([]api.Row, n)
	for i := range out {
		out[i].Vec = make([]uint64, (n+63)/64)
		out[i].Vec[i/64] = 1 << (i % 64)
	}
	return out
}

// upTo gives 0 to n - 1.
func upTo(n int) []int {
	out := make([]int, n)
	for i := range out {
		out[i] = i
	}
	return out
}

// there tells whether a place is one of n.
func there(place, n int) bool { return 0 <= place && place < n }

// degree is Degree by the chapter's words: each bit is counted, and is set if it is there an odd number of times.
func degree(l []api.Row, which []int) int {
	times := map[int]int{}
	for _, place := range which {
		if !there(place, len(l)) {
			continue
		}
		for i := range len(l[place].Vec) * 64 {
			if l[place].Vec[i/64]>>(i%64)&1 == 1 {
				times[i]++
			}
		}
	}
	n := 0
	for _, t := range times {
		n += t % 2
	}
	return n
}

func away(a, b int) int {
	if a > b {
		return a - b
	}
	return b - a
}

// choose is Choose by the chapter's words; target is within its bounds.
func choose(l []api.Row, begin, target int) []int {
	if len(l) == 0 {
		return nil
	}
	first := begin % len(l)
	if first < 0 {
		first += len(l)
	}
	chosen := []int{first}
	for len(chosen) < 32 {
		brings := map[int]int{} // by place: how far away the degree would be
		for i := range l {
			if slices.Contains(chosen, i) {
				continue
			}
			if d := degree(l, append(slices.Clone(chosen), i)); d >= 1 {
				brings[i] = away(d, target)
			}
		}
		nearest := away(degree(l, chosen), target)
		nearer := false
		for _, d := range brings {
			if d < nearest {
				nearest, nearer = d, true
			}
		}
		if !nearer {
			break
		}
		for i := range l {
			if d, is := brings[i]; is && d == nearest {
				chosen = append(chosen, i)
				break
			}
		}
	}
	slices.Sort(chosen)
	return chosen
}

// mix is Mix by the chapter's words.
func mix(l []api.Packet, which []int) (api.Packet, bool) {
	var at []api.Packet
	for _, place := range which {
		if there(place, len(l)) {
			at = append(at, l[place])
		}
	}
	if len(at) == 0 {
		return api.Packet{}, false
	}
	out := api.Packet{Object: at[0].Object, Len: at[0].Len, K: at[0].K, Size: at[0].Size, Hops: at[0].Hops}
	var data []byte
	for _, p := range at {
		if p.Object != out.Object || p.Len != out.Len || p.K != out.K || p.Size != out.Size {
			return api.Packet{}, false
		}
		out.Hops = max(out.Hops, p.Hops)
		for len(out.Row.Vec) < len(p.Row.Vec) {
			out.Row.Vec = append(out.Row.Vec, 0)
		}
		for i, w := range p.Row.Vec {
			out.Row.Vec[i] ^= w
		}
		for len(data) < len(p.Row.Data) {
			data = append(data, 0)
		}
		for i := range len(p.Row.Data) {
			data[i] ^= p.Row.Data[i]
		}
	}
	out.Row.Data = string(data)
	if out.Hops >= 15 || degree([]api.Row{out.Row}, []int{0}) == 0 {
		return api.Packet{}, false
	}
	out.Hops++
	return out, true
}

// same tells whether two packets are alike in all they have; of the rows of bits, words of 0 at the end make no difference (R3).
func same(a, b api.Packet) bool {
	return a.Object == b.Object && a.Len == b.Len && a.K == b.K && a.Size == b.Size && a.Hops == b.Hops &&
		slices.Equal(trimmed(a.Row.Vec), trimmed(b.Row.Vec)) && a.Row.Data == b.Row.Data
}

// trimmed gives v without words of 0 at its end.
func trimmed(v []uint64) []uint64 {
	for len(v) > 0 && v[len(v)-1] == 0 {
		v = v[:len(v)-1]
	}
	return v
}

// nothing tells whether a packet is what comes with false.
func nothing(p api.Packet) bool { return same(p, api.Packet{}) && len(p.Row.Vec) == 0 }

// checkMix holds Mix against what is wanted.
func checkMix(t *testing.T, name string, l []api.Packet, which []int, want api.Packet, wanted bool) {
	t.Helper()
	got, ok := recode.Mix(l, which)
	if ok != wanted || !same(got, want) || !ok && !nothing(got) {
		t.Errorf("%s: Mix(%+v, %v) is %+v, %t, not %+v, %t", name, l, which, got, ok, want, wanted)
	}
}

// refused holds Mix against false.
func refused(t *testing.T, name string, l []api.Packet, which []int) {
	t.Helper()
	checkMix(t, name, l, which, api.Packet{}, false)
}

// pack gives a packet of four blocks of as many bytes as data has.
func pack(bits uint64, hops int, data string) api.Packet {
	return api.Packet{Object: 9, Len: 3, K: 4, Size: len(data), Hops: hops, Row: api.Row{Vec: []uint64{bits}, Data: data}}
}

// with gives p, changed.
func with(p api.Packet, change func(*api.Packet)) api.Packet {
	p.Row.Vec = slices.Clone(p.Row.Vec)
	change(&p)
	return p
}

func TestDegree(t *testing.T) {
	l := rows(7, 3, 1, 7, 0, all)
	for _, c := range []struct {
		l     []api.Row
		which []int
		want  int
	}{
		{nil, nil, 0},
		{nil, []int{0}, 0},
		{[]api.Row{}, []int{0, 1, -1}, 0},
		{l, nil, 0},
		{l, []int{}, 0},
		{l, []int{0}, 3},
		{l, []int{1}, 2},
		{l, []int{4}, 0},
		{l, []int{5}, 64},
		{l, []int{0, 1}, 1},
		{l, []int{1, 0}, 1},
		{l, []int{0, 2}, 2},
		{l, []int{0, 1, 2}, 2},
		{l, []int{2, 1, 0}, 2},
		{l, []int{0, 3}, 0},
		{l, []int{0, 5}, 61},
		{l, []int{-1}, 0},
		{l, []int{6}, 0},
		{l, []int{-6, 6, 12}, 0},
		{l, []int{math.MinInt}, 0},
		{l, []int{math.MaxInt}, 0},
		{l, []int{1 << 32, -1 << 32, 1<<32 + 1}, 0},
		{l, []int{0, 1, 9, -1}, 1},
		{l, []int{math.MinInt, 0, 6, math.MaxInt, 1, -1}, 1},
		{l, []int{-1, -1, 1}, 2},
		{l, []int{0, 0}, 0},
		{l, []int{0, 0, 0}, 3},
		{l, []int{0, 0, 0, 0}, 0},
		{l, []int{0, 0, 0, 0, 0}, 3},
		{l, []int{0, 0, 1}, 2},
		{l, []int{0, 1, 0}, 2},
		{l, []int{1, 0, 0, 0}, 1},
		{l, []int{0, 1, 0, 1}, 0},
		{l, []int{0, 1, 0, 1, 0, 1}, 1},
		{l, []int{0, 3, 3}, 3},
		{long(nil, []uint64{}, []uint64{0, 0}), []int{0, 1, 2}, 0},
		{long(nil, []uint64{1}), []int{0, 1}, 1},
		{long([]uint64{1}, []uint64{1, 1}), []int{0, 1}, 1},
		{long([]uint64{1, 1}, []uint64{1}), []int{0, 1}, 1},
		{long([]uint64{1, 3, all}, []uint64{2, 1}), []int{0, 1}, 67},
		{long([]uint64{1, 0, 0}, []uint64{1}), []int{0, 1}, 0},
		{long([]uint64{all, all, all}, []uint64{all, 0, all}, []uint64{0, all}), []int{0, 1, 2}, 0},
	} {
		if got := recode.Degree(c.l, c.which); got != c.want {
			t.Errorf("Degree(%v, %v) is %d, not %d", c.l, c.which, got, c.want)
		}
	}
}

// TestDegreeOfAllPlaces: all lists of up to five places, of four rows and around them.
func TestDegreeOfAllPlaces(t *testing.T) {
	l := long([]uint64{7}, []uint64{5, 1}, nil, []uint64{12})
	var each func(which []int)
	each = func(which []int) {
		if got, want := recode.Degree(l, which), degree(l, which); got != want {
			t.Errorf("Degree of %v is %d, not %d", which, got, want)
		}
		if len(which) == 5 {
			return
		}
		for place := -1; place <= 4; place++ {
			each(append(slices.Clone(which), place))
		}
	}
	each(nil)
}

// TestDegreeOfBits: of one row all numbers of bits, and each bit alone.
func TestDegreeOfBits(t *testing.T) {
	v := make([]uint64, 4)
	for i := range 256 {
		alone := make([]uint64, 4)
		alone[i/64] = 1 << (i % 64)
		v[i/64] |= alone[i/64]
		l := long(v, alone)
		for _, c := range []struct {
			which []int
			want  int
		}{{[]int{0}, i + 1}, {[]int{1}, 1}, {[]int{0, 1}, i}} {
			if got := recode.Degree(l, c.which); got != c.want {
				t.Errorf("bit %d, %v: %d, not %d", i, c.which, got, c.want)
			}
		}
	}
}

func TestChoose(t *testing.T) {
	l := rows(7, 3, 1, 7)
	for _, c := range []struct {
		name          string
		l             []api.Row
		begin, target int
		want          []int
	}{
		{"the chapter's example", rows(7, 3, 1), 0, 1, []int{0, 1}},
		{"at the degree", l, 0, 3, []int{0}},
		{"one less", l, 0, 2, []int{0, 2}},
		{"two less", l, 0, 1, []int{0, 1}},
		{"one more", l, 2, 2, []int{0, 2}},
		{"no rows", nil, 0, 1, nil},
		{"no rows, begin 3", nil, 3, 1, nil},
		{"no rows, begin below 0", []api.Row{}, -3, 1, nil},
		{"no rows, the least begin", nil, math.MinInt, 1, nil},
		{"no rows, the greatest begin", nil, math.MaxInt, 0, nil},
		{"one row", rows(7), 0, 1, []int{0}},
		{"one row, beyond", rows(7), 9, 7, []int{0}},
		{"one row, below 0", rows(7), -9, 7, []int{0}},
		{"one row without a bit", rows(0), 0, 0, []int{0}},
		{"one row without a bit, target 5", rows(0), 0, 5, []int{0}},
		{"target 0: 1 is nearest", l, 0, 0, []int{0, 1}},
		{"target 0, at 1", l, 2, 0, []int{2}},
		{"target below 0", l, 0, -9, []int{0, 1}},
		{"target -2^40", l, 0, -1 << 40, []int{0, 1}},
		{"target beyond all", l, 1, 9, []int{1}},
		{"target 2^40", rows(1, 6, 8, 15), 0, 1 << 40, []int{0, 1, 2}},
		{"the xor would have no bit", rows(7, 7), 0, 0, []int{0}},
		{"the xor would have no bit, below 0", rows(7, 7), 0, -5, []int{0}},
		{"the xor would have no bit, the next one has", rows(7, 7, 5), 0, 0, []int{0, 2}},
		{"the xor would have no bit, the one behind has", rows(7, 5, 7), 0, -1, []int{0, 1}},
		{"the xor of three would have no bit", rows(3, 2, 1), 0, 0, []int{0, 1}},
		{"the xor of three would have no bit: a fourth", rows(15, 12, 3, 1), 0, 0, []int{0, 1, 3}},
		{"the xor would have no bit, and would be as near", rows(3, 3), 0, 1, []int{0}},
		{"of several the first", rows(15, 1, 2, 4), 0, 3, []int{0, 1}},
		{"of several the first, begin behind it", rows(1, 2, 15, 4), 2, 3, []int{0, 2}},
		{"equally near from above and below: the first, from above", rows(1, 30, 6), 0, 4, []int{0, 1}},
		{"equally near from above and below: the first, from below", rows(1, 6, 30), 0, 4, []int{0, 1}},
		{"equally near from above and below: begin behind them", rows(30, 6, 1), 2, 4, []int{0, 2}},
		{"the last one is nearest", rows(7, 1, 24, 8), 0, 4, []int{0, 3}},
		{"one brings it nearer, and then another one", rows(3, 60, 4, 28), 0, 4, []int{0, 2, 3}},
		{"one brings it beyond, and then another one back", rows(1, 30, 2), 0, 4, []int{0, 1, 2}},
		{"only as near: no more", rows(7, 8), 0, 3, []int{0}},
		{"only as near, from the other side", rows(1, 6), 0, 2, []int{0}},
		{"only as near, from above to below", rows(7, 3), 0, 2, []int{0}},
		{"farther away: no more", rows(7, 120), 0, 3, []int{0}},
		{"the nearest, not the first that is nearer", rows(63, 1, 3, 7, 15), 0, 2, []int{0, 4}},
		{"the nearest one first, and then another", rows(1, 6, 30, 32), 0, 6, []int{0, 2, 3}},
		{"step by step", rows(1, 2, 4, 8, 16), 0, 4, []int{0, 1, 2, 3}},
		{"step by step, from the last", rows(1, 2, 4, 8, 16), 4, 4, []int{0, 1, 2, 4}},
		{"step by step, from the middle", rows(1, 2, 4, 8, 16), 2, 2, []int{0, 2}},
		{"all", rows(1, 2, 4, 8, 16), 2, 9, []int{0, 1, 2, 3, 4}},
		{"the places rise, though a later one is chosen first", rows(1, 2, 12, 16), 3, 4, []int{0, 2, 3}},
		{"what is chosen is not chosen again", rows(1, 14), 0, 9, []int{0, 1}},
		{"a row that stands there twice", rows(7, 7), 0, 3, []int{0}},
		{"a row that stands there often", rows(1, 2, 2, 2, 2), 0, 3, []int{0, 1}},
		{"begin without a bit", rows(0, 7, 1, 3), 0, 2, []int{0, 3}},
		{"begin without a bit, target 0", rows(0, 1), 0, 0, []int{0}},
		{"begin without a bit, target below 0", rows(0, 1), 0, -1, []int{0}},
		{"begin without a bit, target 1", rows(0, 1), 0, 1, []int{0, 1}},
		{"begin without a bit, only as near", rows(0, 3), 0, 1, []int{0}},
		{"begin without a bit, all without one", rows(0, 0, 0), 1, 5, []int{1}},
		{"rows without a bit bring nothing", rows(3, 0, 0, 1), 0, 1, []int{0, 3}},
		{"rows of no words", long(nil, nil, []uint64{3}), 1, 2, []int{1, 2}},
		{"rows of no words behind one", long([]uint64{3}, nil, nil, []uint64{1}), 0, 1, []int{0, 3}},
		{"a longer row behind", long([]uint64{1}, []uint64{0, 3}, []uint64{0, 1}), 0, 2, []int{0, 2}},
		{"a shorter row behind", long([]uint64{1, 3}, []uint64{1}, []uint64{0, 2}), 0, 2, []int{0, 1}},
		{"words of 0 at the end", long([]uint64{3}, []uint64{3, 0, 0}, []uint64{1, 0}), 0, 0, []int{0, 2}},
		{"words of 0 at the end, the other way", long([]uint64{3, 0, 0}, []uint64{3}, []uint64{1}), 0, 0, []int{0, 2}},
		{"bits in the last word alone", long([]uint64{0, 0, 7}, []uint64{0, 0, 3}, []uint64{0, 0, 1}), 0, 1, []int{0, 1}},
	} {
		if got := recode.Choose(c.l, c.begin, c.target); !slices.Equal(got, c.want) {
			t.Errorf("%s: %v, not %v", c.name, got, c.want)
		}
	}
}

// TestBegin: the row at begin modulo the number of rows, 0 or more, whatever begin; target is its own degree, so that no other comes.
func TestBegin(t *testing.T) {
	l := rows(1, 2, 4, 8, 16, 32, 64)
	for n := 1; n <= 7; n++ {
		for begin := -3 * n; begin <= 3*n; begin++ {
			if got, want := recode.Choose(l[:n], begin, 1), (begin+3*n)%n; !slices.Equal(got, []int{want}) {
				t.Errorf("%d rows, begin %d: %v, not %d", n, begin, got, want)
			}
		}
		for _, begin := range []int{math.MinInt, math.MinInt + 1, -1 << 32, -1<<32 - 1, -1 << 31, 1 << 31, 1 << 32, 1<<32 + 1, math.MaxInt - 1, math.MaxInt} {
			want := begin % n
			if want < 0 {
				want += n
			}
			if got := recode.Choose(l[:n], begin, 1); !slices.Equal(got, []int{want}) {
				t.Errorf("%d rows, begin %d: %v, not %d", n, begin, got, want)
			}
		}
	}
}

// TestTargets: targets at their bounds, told by hand: above all degrees the xor grows as far as it can, below all it shrinks to one block.
func TestTargets(t *testing.T) {
	l := rows(15, 3, 48, 4, 1)
	for _, c := range []struct {
		targets []int
		want    []int
	}{
		{[]int{1 << 40, 1<<40 - 1, 1<<32 + 1, 1 << 32, 1<<32 - 1, 1 << 31, 1<<31 - 1, 1 << 16, 1 << 8, 64, 7, 6}, []int{0, 2}},
		{[]int{5, 4}, []int{0}}, // of 5, the third one would bring it from one below to one beyond
		{[]int{3}, []int{0, 3}},
		{[]int{2}, []int{0, 1}},
		{[]int{1, 0, -1, -2, -64, -1 << 8, -1 << 16, -1<<31 + 1, -1 << 31, -1<<32 + 1, -1 << 32, -1<<32 - 1, -1<<40 + 1, -1 << 40}, []int{0, 1, 3}},
	} {
		for _, target := range c.targets {
			if got := recode.Choose(l, 0, target); !slices.Equal(got, c.want) {
				t.Errorf("target %d: %v, not %v", target, got, c.want)
			}
		}
	}
}

// TestTargetsBeyond (R1): beyond their bounds no answer is promised but that there is one, of places that rise, begin among them.
func TestTargetsBeyond(t *testing.T) {
	l := rows(15, 3, 48, 4, 1, 0, all)
	for _, target := range []int{math.MinInt, math.MinInt + 1, math.MinInt + 64, -1<<40 - 1, 1<<40 + 1, math.MaxInt - 64, math.MaxInt - 1, math.MaxInt} {
		for begin := range l {
			got := recode.Choose(l, begin, target)
			if !slices.Contains(got, begin) {
				t.Errorf("target %d, begin %d: %v", target, begin, got)
			}
			for i, place := range got {
				if !there(place, len(l)) || i > 0 && place <= got[i-1] {
					t.Errorf("target %d, begin %d: %v", target, begin, got)
				}
			}
		}
	}
}

// TestMost: 32 places and no more, though more would bring the degree nearer still.
func TestMost(t *testing.T) {
	for _, n := range []int{1, 2, 30, 31, 32, 33, 34, 63, 64, 65, 100, 128, 200} {
		for _, target := range []int{1, 2, 30, 31, 32, 33, 34, 64, 100, 1 << 40} {
			for _, begin := range []int{0, 1, 29, 30, 31, 32, n / 2, n - 1} {
				first := begin % n
				most := min(n, target, 32)
				// The first ones, but for the last of them, if begin lies behind.
				want := upTo(most)
				if first >= most {
					want[most-1] = first
				}
				if got := recode.Choose(units(n), begin, target); !slices.Equal(got, want) {
					t.Errorf("%d rows, target %d, begin %d: %v, not %v", n, target, begin, got, want)
				}
			}
		}
	}
}

// TestMostFalling: the same, from a row of all blocks down; degree 1 may be reached, not 0.
func TestMostFalling(t *testing.T) {
	for _, n := range []int{1, 2, 31, 32, 33, 34, 64, 65, 128} {
		whole := make([]uint64, (n+63)/64)
		for i := range n {
			whole[i/64] |= 1 << (i % 64)
		}
		l := append(units(n), api.Row{Vec: whole})
		for _, target := range []int{-1 << 40, -1, 0, 1, 2, 10, n - 1, n} {
			want := append(upTo(min(31, max(0, n-max(target, 1)))), n)
			if got := recode.Choose(l, -1, target); !slices.Equal(got, want) {
				t.Errorf("%d blocks, target %d: %v, not %v", n, target, got, want)
			}
		}
	}
}

// TestChooseAll: all lists of up to four rows of three blocks, from each place and around them, with targets below, at and beyond all degrees.
func TestChooseAll(t *testing.T) {
	for n := range 5 {
		for code := range 1 << (3 * n) {
			l := make([]api.Row, n)
			for i := range l {
				l[i].Vec = []uint64{uint64(code >> (3 * i) & 7)}
			}
			for begin := -1; begin < max(n, 1); begin++ {
				for target := -1; target <= 4; target++ {
					if got, want := recode.Choose(l, begin, target), choose(l, begin, target); !slices.Equal(got, want) {
						t.Fatalf("Choose(%v, %d, %d) is %v, not %v", l, begin, target, got, want)
					}
				}
			}
		}
	}
}

// drawn gives a row as chance has it: of up to three words, few bits or many.
func drawn(r *rand.Rand, blocks int) []uint64 {
	v := make([]uint64, (blocks+63)/64)
	few := 1 + r.IntN(blocks)
	for range r.IntN(few + 1) {
		i := r.IntN(blocks)
		v[i/64] |= 1 << (i % 64)
	}
	if r.IntN(4) == 0 {
		v = v[:r.IntN(len(v)+1)]
	}
	if r.IntN(8) == 0 {
		v = append(v, 0)
	}
	return v
}

// drawnRows gives rows as chance has them, some of them several times.
func drawnRows(r *rand.Rand, n, blocks int) []api.Row {
	l := make([]api.Row, n)
	for i := range l {
		l[i].Vec = drawn(r, blocks)
		if i > 0 && r.IntN(5) == 0 {
			l[i].Vec = l[r.IntN(i)].Vec
		}
		l[i].Data = "text"[:r.IntN(5)]
	}
	return l
}

// TestChooseAny: rows as chance has them, against the chapter told plainly.
func TestChooseAny(t *testing.T) {
	r := rand.New(rand.NewPCG(18, 1))
	counts := map[int]int{}
	for range 1500 {
		blocks := 1 + r.IntN(150)
		l := drawnRows(r, 1+r.IntN(50), blocks)
		begin := r.IntN(300) - 150
		target := r.IntN(blocks+20) - 10
		switch r.IntN(10) {
		case 0:
			begin = int(r.Uint64())
		case 1:
			target = 1 << 40
		case 2:
			target = -1 << 40
		}
		got, want := recode.Choose(l, begin, target), choose(l, begin, target)
		if !slices.Equal(got, want) {
			t.Fatalf("Choose(%v, %d, %d) is %v, not %v", l, begin, target, got, want)
		}
		if recode.Degree(l, got) != degree(l, want) {
			t.Fatalf("Degree(%v, %v) is %d, not %d", l, got, recode.Degree(l, got), degree(l, want))
		}
		counts[len(got)]++
	}
	for n := 1; n <= 6; n++ {
		if counts[n] < 20 {
			t.Errorf("%v", counts)
		}
	}
}

// TestChooseLooksAtBitsAlone: what text a row has makes no difference.
func TestChooseLooksAtBitsAlone(t *testing.T) {
	l := rows(7, 3, 1)
	for _, data := range []string{"", "a", strings.Repeat("\x00", 100)} {
		for i := range l {
			with := slices.Clone(l)
			with[i].Data = data
			if got := recode.Choose(with, 0, 1); !slices.Equal(got, []int{0, 1}) {
				t.Errorf("%q at %d: %v", data, i, got)
			}
			if got := recode.Degree(with, []int{0, 1}); got != 1 {
				t.Errorf("%q at %d: %d", data, i, got)
			}
		}
	}
}

func TestMix(t *testing.T) {
	a, b, c := pack(3, 5, "ab"), pack(1, 0, "cd"), pack(2, 7, "xy")
	l := []api.Packet{a, b, c}
	of := func(bits uint64, hops int, data string) api.Packet { return pack(bits, hops, data) }
	for _, x := range []struct {
		which []int
		want  api.Packet
	}{
		{[]int{0}, of(3, 6, "ab")},
		{[]int{1}, of(1, 1, "cd")},
		{[]int{2}, of(2, 8, "xy")},
		{[]int{0, 1}, of(2, 6, "\x02\x06")},
		{[]int{1, 0}, of(2, 6, "\x02\x06")},
		{[]int{1, 0, 7}, of(2, 6, "\x02\x06")},
		{[]int{-1, 1, math.MinInt, 0, 3, math.MaxInt}, of(2, 6, "\x02\x06")},
		{[]int{0, 2}, of(1, 8, "\x19\x1b")},
		{[]int{2, 1}, of(3, 8, "\x1b\x1d")},
		{[]int{0, 0, 0}, of(3, 6, "ab")},
		{[]int{0, 0, 1}, of(1, 6, "cd")}, // the hops of one that is there twice count, too
		{[]int{0, 1, 0}, of(1, 6, "cd")},
		{[]int{1, 2, 2, 2}, of(3, 8, "\x1b\x1d")},
		{[]int{0, 0, 0, 0, 0}, of(3, 6, "ab")},
		{[]int{0, 0, 1, 1, 2}, of(2, 8, "xy")},
		{[]int{1, -1, 1, 9, 1}, of(1, 1, "cd")},
	} {
		checkMix(t, "mix", l, x.which, x.want, true)
	}
	for _, which := range [][]int{
		nil, {}, {-1}, {3}, {-3, 3, 4}, {math.MinInt}, {math.MaxInt}, {1 << 32, -1 << 32, 1<<32 + 1}, // none is there
		{0, 0}, {1, 1}, {0, 0, 1, 1}, {2, 2, 2, 2}, {0, 1, 2}, {2, 0, 1}, {0, 0, -1}, {0, 1, 2, 2, 2}, // the xor has no bit
	} {
		refused(t, "no mix", l, which)
	}
	for _, which := range [][]int{nil, {}, {0}, {-1}, {0, 1}} {
		refused(t, "no packets", nil, which)
		refused(t, "no packets", []api.Packet{}, which)
	}
}

// apart gives, of a packet, those of which just one of Object, Len, K, Size is another.
func apart(p api.Packet) map[string]api.Packet {
	out := map[string]api.Packet{}
	for name, field := range map[string]func(*api.Packet) *int{
		"Object": func(p *api.Packet) *int { return &p.Object },
		"Len":    func(p *api.Packet) *int { return &p.Len },
		"K":      func(p *api.Packet) *int { return &p.K },
		"Size":   func(p *api.Packet) *int { return &p.Size },
	} {
		out[name+" more"] = with(p, func(p *api.Packet) { *field(p)++ })
		out[name+" less"] = with(p, func(p *api.Packet) { *field(p)-- })
		out[name+" below 0"] = with(p, func(p *api.Packet) { *field(p) *= -1 })
		out[name+" in 2^8"] = with(p, func(p *api.Packet) { *field(p) += 1 << 8 })
		out[name+" in 2^32"] = with(p, func(p *api.Packet) { *field(p) += 1 << 32 })
		out[name+" least"] = with(p, func(p *api.Packet) { *field(p) = math.MinInt })
		out[name+" greatest"] = with(p, func(p *api.Packet) { *field(p) = math.MaxInt })
	}
	return out
}

// TestMixApart: packets that are not alike in one of the four are not mixed, wherever the other one stands; but if it is not among the places, they are.
func TestMixApart(t *testing.T) {
	for name, other := range apart(pack(8, 3, "ef")) {
		a, b := pack(3, 5, "ab"), pack(1, 0, "cd")
		for place := range 3 {
			l := slices.Insert([]api.Packet{a, b}, place, other)
			rest := slices.DeleteFunc(upTo(3), func(i int) bool { return i == place })
			for _, which := range [][]int{{0, 1, 2}, {2, 1, 0}, {place, rest[0]}, {rest[1], place}, {rest[0], rest[1], place, place}, {place, place, rest[0]}, {place, place, place, rest[1]}} {
				refused(t, name, l, which)
			}
			checkMix(t, name, l, rest, pack(2, 6, "\x02\x06"), true)
			checkMix(t, name, l, []int{rest[0], 3, -1}, with(a, func(p *api.Packet) { p.Hops = 6 }), true)
			checkMix(t, name, l, []int{place}, with(other, func(p *api.Packet) { p.Hops = 4 }), true)
			checkMix(t, name, l, []int{place, place, place}, with(other, func(p *api.Packet) { p.Hops = 4 }), true)
		}
	}
}

// TestMixTheirs: Object, Len, K and Size are theirs, whatever these are: Mix does not ask whether they may be sent.
func TestMixTheirs(t *testing.T) {
	numbers := []int{math.MinInt, -1, 0, 1, 2, 64, 65, 128, 129, 1 << 32, math.MaxInt}
	for i, n := range numbers {
		for j, m := range numbers {
			p := api.Packet{Object: n, Len: m, K: numbers[(i+j)%len(numbers)], Size: numbers[(i+2*j+1)%len(numbers)], Hops: 2, Row: api.Row{Vec: []uint64{5, 1}, Data: "ab"}}
			q := with(p, func(p *api.Packet) { p.Row = api.Row{Vec: []uint64{1, 0}, Data: "cd"} })
			want := with(p, func(p *api.Packet) { p.Hops, p.Row = 3, api.Row{Vec: []uint64{4, 1}, Data: "\x02\x06"} })
			checkMix(t, "theirs", []api.Packet{p, q}, []int{0, 1}, want, true)
			checkMix(t, "theirs", []api.Packet{q, p}, []int{0, 1}, want, true)
		}
	}
}

// TestMixHops: the greatest and 1, wherever it stands, and not beyond 15.
func TestMixHops(t *testing.T) {
	numbers := []int{math.MinInt, math.MinInt + 1, -1 << 32, -16, -2, -1, 0, 1, 7, 13, 14, 15, 16, 17, 255, 256, 1 << 32, math.MaxInt - 1, math.MaxInt}
	for _, a := range numbers {
		for _, b := range numbers {
			for _, c := range []int{math.MinInt, -5, 0, 3, 14, 15} {
				l := []api.Packet{pack(1, a, "ab"), pack(2, b, "cd"), pack(4, c, "ef")}
				for _, which := range [][]int{{0}, {1}, {0, 1}, {1, 0}, {0, 1, 2}, {2, 1, 0}, {1, 1, 0}, {0, 2, 0}} {
					greatest := math.MinInt
					for _, place := range which {
						greatest = max(greatest, l[place].Hops)
					}
					got, ok := recode.Mix(l, which)
					if ok != (greatest <= 14) || ok && got.Hops != greatest+1 || !ok && !nothing(got) {
						t.Fatalf("hops %d, %d, %d at %v: %+v, %t", a, b, c, which, got, ok)
					}
				}
			}
		}
	}
	// One that came too far and is not among the places holds nobody back.
	l := []api.Packet{pack(1, 15, "ab"), pack(2, 14, "cd"), pack(4, math.MaxInt, "ef")}
	checkMix(t, "hops", l, []int{1, 3, -1}, pack(2, 15, "cd"), true)
	refused(t, "hops", l, []int{1, 0})
	refused(t, "hops", l, []int{1, 2})
	refused(t, "hops", l, []int{1, 2, 2})
}

// TestMixData: the texts' xor is as long as the longest of them, also of one that is there twice; and rows of different numbers of words are mixed, too.
func TestMixData(t *testing.T) {
	p := func(data string, v ...uint64) api.Packet {
		return api.Packet{K: 4, Size: 2, Row: api.Row{Vec: v, Data: data}}
	}
	for _, c := range []struct {
		l     []api.Packet
		which []int
		data  string
		vec   []uint64
	}{
		{[]api.Packet{p("", 1)}, []int{0}, "", []uint64{1}},
		{[]api.Packet{p("", 1), p("", 2)}, []int{0, 1}, "", []uint64{3}},
		{[]api.Packet{p("", 1), p("xyz", 2)}, []int{0, 1}, "xyz", []uint64{3}},
		{[]api.Packet{p("ab", 1), p("xyz", 2)}, []int{0, 1}, "\x19\x1bz", []uint64{3}},
		{[]api.Packet{p("xyz", 1), p("ab", 2)}, []int{0, 1}, "\x19\x1bz", []uint64{3}},
		{[]api.Packet{p("xyz", 1), p("ab", 2), p("\x00\x00\x00\x00", 4)}, []int{0, 1, 2}, "\x19\x1bz\x00", []uint64{7}},
		{[]api.Packet{p("ab", 1), p("ab", 2)}, []int{0, 1}, "\x00\x00", []uint64{3}},
		{[]api.Packet{p("ab", 1), p("wxyz", 2)}, []int{0, 1, 1}, "ab\x00\x00", []uint64{1}},
		{[]api.Packet{p("ab", 1), p("wxyz", 2)}, []int{1, 0, 1, 1, 1}, "ab\x00\x00", []uint64{1}},
		{[]api.Packet{p("ab", 1), p("wxyz", 2)}, []int{0, 0, 1}, "wxyz", []uint64{2}},
		{[]api.Packet{p("\xff\x80", 1), p("\x0f\x7f", 2)}, []int{0, 1}, "\xf0\xff", []uint64{3}},
		{[]api.Packet{p("ab", 1), p("cd", 1, 2)}, []int{0, 1}, "\x02\x06", []uint64{0, 2}},
		{[]api.Packet{p("ab", 1, 2, 3), p("cd", 1)}, []int{0, 1}, "\x02\x06", []uint64{0, 2, 3}},
		{[]api.Packet{p("ab"), p("cd", 1)}, []int{0, 1}, "\x02\x06", []uint64{1}},
		{[]api.Packet{p("ab", 0, 0), p("cd", 1)}, []int{0, 1}, "\x02\x06", []uint64{1}},
		{[]api.Packet{p("ab", 1, 0, 0), p("cd", 1, 1)}, []int{0, 1}, "\x02\x06", []uint64{0, 1}},
	} {
		want := api.Packet{K: 4, Size: 2, Hops: 1, Row: api.Row{Vec: c.vec, Data: c.data}}
		checkMix(t, "data", c.l, c.which, want, true)
	}
	for _, l := range [][]api.Packet{
		{p("ab")}, {p("ab", 0)}, {p("ab", 0, 0, 0)}, {p("ab"), p("cd")}, {p("ab"), p("cd", 0, 0)},
		{p("ab", 1), p("cd", 1)}, {p("ab", 1, 0), p("cd", 1)}, {p("ab", 1), p("cd", 1, 0, 0)}, {p("ab", 0, 0, 1), p("cd", 0, 0, 1)},
		{p("ab", 3), p("cd", 1), p("ef", 2)},
	} {
		refused(t, "no bit", l, upTo(len(l)))
	}
}

// TestMixAll: all lists of up to five places, of four packets, one of another object, and around them.
func TestMixAll(t *testing.T) {
	l := []api.Packet{pack(3, 5, "ab"), pack(1, 14, "cd"), with(pack(8, 0, "ef"), func(p *api.Packet) { p.Object = 2 }), pack(2, 7, "xy")}
	seen := map[bool]int{}
	var each func(which []int)
	each = func(which []int) {
		want, wanted := mix(l, which)
		checkMix(t, "all", l, which, want, wanted)
		seen[wanted]++
		if len(which) == 5 {
			return
		}
		for place := -1; place <= 4; place++ {
			each(append(slices.Clone(which), place))
		}
	}
	each(nil)
	if seen[true] < 1000 || seen[false] < 1000 {
		t.Errorf("%v", seen)
	}
}

// drawnPackets gives packets as chance has them, most of them alike.
func drawnPackets(r *rand.Rand, n int) []api.Packet {
	blocks, size := 1+r.IntN(150), r.IntN(70)
	l := make([]api.Packet, n)
	for i, row := range drawnRows(r, n, blocks) {
		data := make([]byte, size)
		for j := range data {
			data[j] = byte(r.Uint64())
		}
		row.Data = string(data)
		l[i] = api.Packet{Object: 3, Len: blocks, K: blocks, Size: size, Hops: r.IntN(16), Row: row}
		switch r.IntN(60) {
		case 0:
			l[i].Object--
		case 1:
			l[i].Len++
		case 2:
			l[i].K++
		case 3:
			l[i].Size--
		case 4:
			l[i].Row.Data = string(data[:r.IntN(size+1)])
		}
	}
	return l
}

// TestMixAny: packets as chance has them, against the chapter told plainly.
func TestMixAny(t *testing.T) {
	r := rand.New(rand.NewPCG(18, 2))
	seen := map[bool]int{}
	for range 5000 {
		n := 1 + r.IntN(10)
		l := drawnPackets(r, n)
		which := make([]int, r.IntN(8))
		for i := range which {
			which[i] = r.IntN(n+2) - 1
		}
		want, wanted := mix(l, which)
		checkMix(t, "any", l, which, want, wanted)
		if t.Failed() {
			t.FailNow()
		}
		seen[wanted]++
	}
	if seen[true] < 1000 || seen[false] < 1000 {
		t.Errorf("%v", seen)
	}
}

// TestTogether: what Choose chooses, Mix mixes to a packet of just Degree's degree, and it is true of the blocks that the packets are true of.
func TestTogether(t *testing.T) {
	r := rand.New(rand.NewPCG(18, 3))
	blocks := make([]string, 100)
	for i := range blocks {
		blocks[i] = string([]byte{byte(r.Uint64()), byte(r.Uint64()), byte(r.Uint64())})
	}
	sum := func(v []uint64) string {
		out := make([]byte, 3)
		for i, b := range blocks {
			if v[i/64]>>(i%64)&1 == 1 {
				for j := range out {
					out[j] ^= b[j]
				}
			}
		}
		return string(out)
	}
	for range 300 {
		var l []api.Packet
		var only []api.Row
		for range 40 {
			v := make([]uint64, 2)
			for range 1 + r.IntN(20) {
				i := r.IntN(100)
				v[i/64] |= 1 << (i % 64)
			}
			p := api.Packet{Object: 1, Len: 300, K: 100, Size: 3, Hops: r.IntN(15), Row: api.Row{Vec: v, Data: sum(v)}}
			l = append(l, p)
			only = append(only, p.Row)
		}
		which := recode.Choose(only, r.IntN(40), r.IntN(60))
		p, ok := recode.Mix(l, which)
		if !ok || p.Row.Data != sum(p.Row.Vec) {
			t.Fatalf("%v of %+v: %+v, %t", which, l, p, ok)
		}
		if got, want := degree([]api.Row{p.Row}, []int{0}), recode.Degree(only, which); got != want {
			t.Fatalf("%v of %+v: degree %d, not %d", which, l, got, want)
		}
	}
}

// TestMany: a long row that is named again and again, and many short ones beside it.
func TestMany(t *testing.T) {
	v := make([]uint64, 1<<15)
	for i := range v {
		v[i] = all
	}
	l := long(v)
	for range 1 << 13 {
		l = append(l, api.Row{Vec: []uint64{1}}, api.Row{Vec: []uint64{2}})
	}
	if got := recode.Choose(l, 0, 1); !slices.Equal(got, []int{0, 1, 2}) {
		t.Errorf("%v", got)
	}
	if got := recode.Choose(l, 5, 3); !slices.Equal(got, []int{2, 5}) {
		t.Errorf("%v", got)
	}
	// Place 1 once more than place 0, which is named an odd number of times.
	which := []int{1}
	for range 1<<16 + 1 {
		which = append(which, 0, 1)
	}
	if got, want := recode.Degree(l, which), 64<<15; got != want {
		t.Errorf("%d, not %d", got, want)
	}
	packets := []api.Packet{{Row: api.Row{Vec: v, Data: "abcd"}}, {Row: api.Row{Vec: []uint64{1}, Data: "xy"}}}
	for _, c := range []struct {
		which []int
		want  api.Row
	}{
		{which, packets[0].Row},
		{which[1:], api.Row{Vec: append([]uint64{all - 1}, v[1:]...), Data: "\x19\x1bcd"}},
		{which[:len(which)-2], api.Row{Vec: []uint64{1}, Data: "xy\x00\x00"}},
	} {
		// Rows as long as these are not told.
		if got, ok := recode.Mix(packets, c.which); !ok || !same(got, api.Packet{Hops: 1, Row: c.want}) {
			t.Errorf("Mix at %d places: %t, %q", len(c.which), ok, got.Row.Data)
		}
	}
	if got, ok := recode.Mix(packets, which[1:len(which)-2]); ok || !nothing(got) {
		t.Errorf("Mix at %d places, each an even number of times: %t, %q", len(which)-3, ok, got.Row.Data)
	}
}

// TestHandedIn (R4): lists, rows and texts are as they were, with what lies behind their ends.
func TestHandedIn(t *testing.T) {
	for round := range 3 {
		memory := []uint64{7, 1, 77, 3, 0, 78, 1, 79}
		text := []byte("abcdef--")
		str := func(from, to int) string { return unsafe.String(&text[from], to-from) }
		vecs := [][]uint64{memory[0:2], memory[3:5], memory[6:7]}
		l := make([]api.Row, 3, 5)
		packets := make([]api.Packet, 3, 5)
		for i := range l {
			l[i] = api.Row{Vec: vecs[i], Data: str(2*i, 2*i+2)}
			packets[i] = api.Packet{Object: 1, Len: 2, K: 70, Size: 2, Hops: i, Row: l[i]}
		}
		l[:5][3] = api.Row{Data: "behind"}
		packets[:5][4] = api.Packet{Object: 99}
		which := []int{2, 0, 9, 1, 0, 55, 56}
		words, places := slices.Clone(memory), slices.Clone(which)
		switch round {
		case 0:
			recode.Choose(l, 0, 1)
			recode.Choose(l, 2, 50)
		case 1:
			recode.Mix(packets, which[:4])
			recode.Mix(packets, which[:5])
			recode.Mix(packets, which[1:2])
		case 2:
			recode.Degree(l, which[:4])
			recode.Degree(l, which[:5])
			recode.Degree(l, which[1:2])
		}
		if !slices.Equal(memory, words) || string(text) != "abcdef--" || !slices.Equal(which, places) {
			t.Errorf("round %d: %v, %q, %v", round, memory, text, which)
		}
		for i := range 3 {
			if &l[i].Vec[0] != &vecs[i][0] || len(l[i].Vec) != len(vecs[i]) || l[i].Data != str(2*i, 2*i+2) {
				t.Errorf("round %d: row %d is %v", round, i, l[i])
			}
			if p := packets[i]; &p.Row.Vec[0] != &vecs[i][0] || len(p.Row.Vec) != len(vecs[i]) || p.Row.Data != str(2*i, 2*i+2) || p.Object != 1 || p.Len != 2 || p.K != 70 || p.Size != 2 || p.Hops != i {
				t.Errorf("round %d: packet %d is %v", round, i, p)
			}
		}
		if l[:5][3].Data != "behind" || l[:5][4].Vec != nil || packets[:5][3].Object != 0 || packets[:5][4].Object != 99 {
			t.Errorf("round %d: %v and %v", round, l[:5], packets[:5])
		}
	}
}

// TestNotKept (R4): what becomes of what was handed in is not seen in an answer.
func TestNotKept(t *testing.T) {
	for _, which := range [][]int{{0}, {1}, {0, 0, 0}, {0, 1}, {0, 1, 1}, {0, 1, 2}} {
		text := []byte("abcdef")
		var l []api.Packet
		for i := range 3 {
			l = append(l, api.Packet{K: 70, Size: 2, Row: api.Row{Vec: []uint64{1 << i, 5}, Data: unsafe.String(&text[2*i], 2)}})
		}
		want, _ := mix(l, which)
		got, _ := recode.Mix(l, which)
		copy(text, "spoilt")
		for _, p := range l {
			clear(p.Row.Vec)
		}
		clear(l)
		places := slices.Clone(which)
		clear(places)
		if !same(got, want) {
			t.Errorf("%v: %+v, not %+v", which, got, want)
		}
	}
}

// TestHandedOut (R4): answers lie in memory of their own; what is done to one is not seen in another, nor in what was handed in.
func TestHandedOut(t *testing.T) {
	for _, which := range [][]int{{0}, {2}, {1, 1, 1}, {0, 1}, {0, 1, 1}, {2, 1, 0}, {0, 3}, {3, 0, 3}} {
		text := strings.Clone("abcdefgh")
		var l []api.Packet
		for i := range 4 {
			l = append(l, api.Packet{K: 70, Size: 2, Row: api.Row{Vec: []uint64{1 << i, 5}, Data: text[2*i : 2*i+2]}})
		}
		l[3].Row = api.Row{} // an xor with nothing is new memory, too
		want, _ := mix(l, which)
		one, _ := recode.Mix(l, which)
		two, _ := recode.Mix(l, which)
		bytes, words := map[*byte]int{}, map[*uint64]int{}
		for place, p := range append(slices.Clone(l), one, two) {
			for i := range len(p.Row.Data) {
				at := unsafe.StringData(p.Row.Data[i:])
				if other, is := bytes[at]; is {
					t.Errorf("%v: %d and %d share text", which, other, place)
				}
				bytes[at] = place
			}
			row := p.Row.Vec[:cap(p.Row.Vec)]
			for i := range row {
				if other, is := words[&row[i]]; is {
					t.Errorf("%v: %d and %d share a row", which, other, place)
				}
				words[&row[i]] = place
			}
		}
		clear(one.Row.Vec[:cap(one.Row.Vec)])
		if again, ok := recode.Mix(l, which); !ok || !same(again, want) || !same(two, want) {
			t.Errorf("%v: %+v and %+v, not %+v", which, two, again, want)
		}
	}
	l := units(40)
	one, two := recode.Choose(l, 3, 40), recode.Choose(l, 3, 40)
	clear(one[:cap(one)])
	_ = append(one, 1, 2, 3)
	if three := recode.Choose(l, 3, 40); !slices.Equal(two, upTo(32)) || !slices.Equal(three, upTo(32)) {
		t.Errorf("%v and %v", two, three)
	}
}

// TestAgain (R5): the same calls give the same, to the last byte, whatever was asked between; and places in another order the same mix.
func TestAgain(t *testing.T) {
	r := rand.New(rand.NewPCG(18, 4))
	for range 300 {
		n := 1 + r.IntN(20)
		l := drawnPackets(r, n)
		var only []api.Row
		for _, p := range l {
			only = append(only, p.Row)
		}
		begin, target := r.IntN(50)-25, r.IntN(50)-5
		which := make([]int, r.IntN(6))
		for i := range which {
			which[i] = r.IntN(n+2) - 1
		}
		chosen := recode.Choose(only, begin, target)
		mixed, ok := recode.Mix(l, which)
		d := recode.Degree(only, which)
		for range 3 {
			recode.Choose(only, begin+1, target-1)
			recode.Mix(l, chosen)
			recode.Degree(only, chosen)
			p, is := recode.Mix(l, which)
			if got := recode.Choose(only, begin, target); !slices.Equal(got, chosen) {
				t.Fatalf("%v, not %v", got, chosen)
			}
			if is != ok || !same(p, mixed) || !slices.Equal(p.Row.Vec, mixed.Row.Vec) {
				t.Fatalf("%+v, %t, not %+v, %t", p, is, mixed, ok)
			}
			if got := recode.Degree(only, which); got != d {
				t.Fatalf("%d, not %d", got, d)
			}
			r.Shuffle(len(which), func(i, j int) { which[i], which[j] = which[j], which[i] })
		}
	}
}
