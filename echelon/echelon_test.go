package echelon_test

import (
	"math/big"
	"math/bits"
	"math/rand/v2"
	"slices"
	"testing"

	"bucketline/api"
	"bucketline/echelon"
	"bucketline/words"
)

const all = ^uint64(0)

// low gives rows of one word each.
func low(rows ...uint64) [][]uint64 {
	l := make([][]uint64, len(rows))
	for i, w := range rows {
		l[i] = []uint64{w}
	}
	return l
}

// sameRows holds lists against each other row by row; words of 0 at a row's end make no difference (R3).
func sameRows(a, b [][]uint64) bool {
	return slices.EqualFunc(a, b, words.Same)
}

// copied gives a list that shares nothing with l.
func copied(l [][]uint64) [][]uint64 {
	out := make([][]uint64, len(l))
	for i, v := range l {
		out[i] = slices.Clone(v)
	}
	return out
}

func TestReduce(t *testing.T) {
	for _, c := range []struct {
		basis   [][]uint64
		v, want []uint64
	}{
		{low(5, 6), []uint64{7}, []uint64{4}},
		{low(5, 6), []uint64{3}, []uint64{0}},
		{low(5, 6), []uint64{4}, []uint64{4}},
		{low(5, 6), []uint64{8}, []uint64{8}},
		{low(5, 6), []uint64{0}, []uint64{0}},
		// The lowest bit counts, not another one that both have.
		{low(6), []uint64{4}, []uint64{4}},
		{low(6), []uint64{2}, []uint64{4}},
		{low(1<<63 | 1), []uint64{1 << 63}, []uint64{1 << 63}},
		// Each row meets what those ahead of it left, in the order that they are given in.
		{low(3, 2), []uint64{1}, []uint64{0}},
		{low(2, 3), []uint64{1}, []uint64{2}},
		{low(1, 1), []uint64{1}, []uint64{0}},
		{low(3, 3, 2), []uint64{5}, []uint64{4}},
		{low(3, 6, 12, 24), []uint64{1}, []uint64{16}},
		{low(24, 12, 6, 3), []uint64{1}, []uint64{2}},
		// Rows of no bit are passed over.
		{low(0, 2), []uint64{3}, []uint64{1}},
		{low(0, 0, 0), []uint64{all}, []uint64{all}},
		{[][]uint64{nil, {}, {0, 0}, {1}}, []uint64{3}, []uint64{2}},
		// None at all.
		{nil, []uint64{9, 1}, []uint64{9, 1}},
		{[][]uint64{}, []uint64{9}, []uint64{9}},
		{nil, nil, nil},
		{low(1), nil, nil},
		{low(1), []uint64{}, nil},
		// Rows of several words, longer and shorter than v.
		{[][]uint64{{1, 4}}, []uint64{1}, []uint64{0, 4}},
		{[][]uint64{{1, 4}, {0, 4, 8}}, []uint64{1}, []uint64{0, 0, 8}},
		{low(1), []uint64{3, 5, 7}, []uint64{2, 5, 7}},
		{[][]uint64{{0, 1}}, []uint64{all}, []uint64{all}},
		{[][]uint64{{0, 1}}, []uint64{0, 1}, nil},
		{[][]uint64{{1 << 63, 1}, {0, 1}}, []uint64{1 << 63}, nil},
		{[][]uint64{{0, 0, 0, 1}}, []uint64{2, 0, 0, 3}, []uint64{2, 0, 0, 2}},
	} {
		if got := echelon.Reduce(c.basis, c.v); !words.Same(got, c.want) {
			t.Errorf("Reduce(%x, %x): %x, not %x", c.basis, c.v, got, c.want)
		}
	}
}

func TestAdd(t *testing.T) {
	for _, c := range []struct {
		basis [][]uint64
		v     []uint64
		want  [][]uint64
		fresh bool
	}{
		// At the end, ahead of all, in between.
		{low(5, 6), []uint64{8}, low(5, 6, 8), true},
		{low(2, 4), []uint64{1}, low(1, 2, 4), true},
		{low(1, 4), []uint64{2}, low(1, 2, 4), true},
		{low(1, 4), []uint64{7}, low(1, 2, 4), true},
		// Rows that have its first bit are xored with what is left of v, not with v.
		{low(5, 6), []uint64{4}, low(1, 2, 4), true},
		{low(5, 6), []uint64{7}, low(1, 2, 4), true},
		{low(5, 6), []uint64{12}, low(9, 10, 12), true},
		{low(9, 2), []uint64{12}, low(9, 2, 12), true},
		// A row that is in the span already: the basis as it is.
		{low(5, 6), []uint64{3}, low(5, 6), false},
		{low(5, 6), []uint64{5}, low(5, 6), false},
		{low(5, 6), []uint64{0}, low(5, 6), false},
		{low(5, 6), nil, low(5, 6), false},
		{low(3, 6, 0, 3), []uint64{5}, low(3, 6, 0, 3), false},
		// None at first.
		{nil, []uint64{12}, low(12), true},
		{[][]uint64{}, []uint64{0, 6}, [][]uint64{{0, 6}}, true},
		{nil, []uint64{0}, nil, false},
		{nil, nil, nil, false},
		// Rows of no bit stay where they are.
		{low(0, 4), []uint64{2}, low(0, 2, 4), true},
		{low(0, 0), []uint64{2}, low(0, 0, 2), true},
		{low(4, 0), []uint64{2}, low(2, 4, 0), true},
		{[][]uint64{nil, {4}, {}}, []uint64{8}, [][]uint64{nil, {4}, nil, {8}}, true},
		// Lists that are no basis: ahead of the first greater one, wherever lesser ones stand.
		{low(8, 1, 4), []uint64{2}, low(2, 8, 1, 4), true},
		{low(1, 8, 4), []uint64{2}, low(1, 2, 8, 4), true},
		{low(3, 3), []uint64{2}, low(1, 1, 2), true},
		// What stands there has been xored by then: 6 is 4 and greater, 2 has no bit left.
		{low(6, 3), []uint64{1}, low(2, 4, 1), true},
		{low(2, 3), []uint64{1}, low(0, 1, 2), true},
		// Rows of several words, of several lengths.
		{low(1), []uint64{0, 1}, [][]uint64{{1}, {0, 1}}, true},
		{[][]uint64{{0, 1}}, []uint64{1 << 63}, [][]uint64{{1 << 63}, {0, 1}}, true},
		{low(3), []uint64{2, 0, 7}, [][]uint64{{1, 0, 7}, {2, 0, 7}}, true},
		{[][]uint64{{3, 0, 7}}, []uint64{2}, [][]uint64{{1, 0, 7}, {2}}, true},
		{[][]uint64{{1, 0}}, []uint64{1}, [][]uint64{{1}}, false},
	} {
		got, fresh := echelon.Add(c.basis, c.v)
		if fresh != c.fresh || !sameRows(got, c.want) {
			t.Errorf("Add(%x, %x): %x, %t, not %x, %t", c.basis, c.v, got, fresh, c.want, c.fresh)
		}
	}
}

func TestBasis(t *testing.T) {
	for _, c := range []struct{ l, want [][]uint64 }{
		{low(3, 6, 5), low(5, 6)},
		{low(3, 6, 5, 0, 3), low(5, 6)},
		{low(1, 3), low(1, 2)},
		{low(3, 3), low(3)},
		{low(4, 2, 1), low(1, 2, 4)},
		{low(7, 3, 1), low(1, 2, 4)},
		{low(0, 0), nil},
		{nil, nil},
		{[][]uint64{}, nil},
		{[][]uint64{nil, {}, {0, 0, 0}}, nil},
		{[][]uint64{nil, {9}, {}, {9, 0}}, low(9)},
		{[][]uint64{{all, all}}, [][]uint64{{all, all}}},
		{[][]uint64{{1, 1}, {1}, {0, 3}}, [][]uint64{{1}, {0, 1}, {0, 2}}},
		{[][]uint64{{0, 1}, {1 << 63, 1}}, [][]uint64{{1 << 63}, {0, 1}}},
	} {
		if got := echelon.Basis(c.l); !sameRows(got, c.want) {
			t.Errorf("Basis(%x): %x, not %x", c.l, got, c.want)
		}
	}
}

func TestRank(t *testing.T) {
	for _, c := range []struct {
		l    [][]uint64
		want int
	}{
		{nil, 0},
		{[][]uint64{}, 0},
		{low(0, 0), 0},
		{[][]uint64{nil, {}, {0, 0}}, 0},
		{low(1, 3), 2},
		{low(3, 3), 1},
		{low(3, 6, 5), 2},
		{low(1, 2, 4, 7), 3},
		{low(0, 7, 0, 1), 2},
		{[][]uint64{{1}, {1, 0}, {1, 1}, {0, 1}}, 2},
		{[][]uint64{{all}, {all, all}, {all, all, all}, {0, all, all}}, 3},
	} {
		if got := echelon.Rank(c.l); got != c.want {
			t.Errorf("Rank(%x): %d, not %d", c.l, got, c.want)
		}
	}
}

// TestRankOfMany: more rows and bits than MaxK too, for the chapter sets no limit.
func TestRankOfMany(t *testing.T) {
	for _, k := range []int{1, 63, 64, 65, 127, api.MaxK, 129, 200} {
		var l [][]uint64
		for i := range k {
			v := words.Set(make([]uint64, 4), i, true)
			l = append(l, words.Set(v, i+1, true))
			if got := echelon.Rank(l); got != i+1 {
				t.Fatalf("Rank of %d chained rows: %d", i+1, got)
			}
		}
		ends := words.Set(words.Set(make([]uint64, 4), 0, true), k, true)
		if got := echelon.Rank(append(l, ends)); got != k {
			t.Errorf("Rank of %d rows and their sum: %d", k, got)
		}
		if got := echelon.Rank(append(l, words.Set(make([]uint64, 4), k, true))); got != k+1 {
			t.Errorf("Rank of %d rows and another: %d", k, got)
		}
	}
}

func TestIn(t *testing.T) {
	for _, c := range []struct {
		basis [][]uint64
		v     []uint64
		want  bool
	}{
		{low(5, 6), []uint64{0}, true},
		{low(5, 6), []uint64{3}, true},
		{low(5, 6), []uint64{5}, true},
		{low(5, 6), []uint64{6}, true},
		{low(5, 6), []uint64{4}, false},
		{low(5, 6), []uint64{7}, false},
		{low(5, 6), []uint64{3, 0, 0}, true},
		{low(5, 6), []uint64{3, 0, 1}, false},
		{low(5, 6), nil, true},
		{nil, nil, true},
		{nil, []uint64{0, 0}, true},
		{nil, []uint64{1}, false},
		{nil, []uint64{0, 1 << 63}, false},
		{low(0), []uint64{1}, false},
		{[][]uint64{nil, {0, 1}}, []uint64{0, 1}, true},
		{[][]uint64{nil, {0, 1}}, []uint64{1}, false},
		{[][]uint64{{1, 2}}, []uint64{1}, false},
		// It is Reduce that says it, of lists that are no basis too.
		{low(3, 2), []uint64{1}, true},
		{low(2, 3), []uint64{1}, false},
	} {
		if got := echelon.In(c.basis, c.v); got != c.want {
			t.Errorf("In(%x, %x): %t", c.basis, c.v, got)
		}
	}
}

// span gives all xors of rows of one word, by trying each choice.
func span(rows []uint64) map[uint64]int {
	out := map[uint64]int{}
	for choice := range 1 << len(rows) {
		var sum uint64
		for i, w := range rows {
			if choice>>i&1 == 1 {
				sum ^= w
			}
		}
		out[sum]++
	}
	return out
}

// TestEachShortList holds every list of up to three rows of four bits against its span, told choice by choice.
func TestEachShortList(t *testing.T) {
	for n := range 4 {
		for code := range 1 << (4 * n) {
			var rows []uint64
			for i := range n {
				rows = append(rows, uint64(code>>(4*i)&15))
			}
			in := span(rows)
			l := low(rows...)
			basis := echelon.Basis(l)
			if len(in) != 1<<len(basis) || echelon.Rank(l) != len(basis) {
				t.Fatalf("%v: a span of %d, a basis of %d, a rank of %d", rows, len(in), len(basis), echelon.Rank(l))
			}
			for v := range uint64(16) {
				if echelon.In(basis, []uint64{v}) != (in[v] > 0) {
					t.Fatalf("%v: In(%x, %d) is not %t", rows, basis, v, in[v] > 0)
				}
				more, fresh := echelon.Add(basis, []uint64{v})
				if fresh == (in[v] > 0) || !sameRows(more, echelon.Basis(append(low(v), l...))) {
					t.Fatalf("%v: Add(%x, %d): %x, %t", rows, basis, v, more, fresh)
				}
			}
			reduced(t, basis)
		}
	}
}

// reduced fails, unless the lowest bits rise and no row has that of another.
func reduced(t *testing.T, basis [][]uint64) {
	t.Helper()
	last := -1
	for i, row := range basis {
		first := words.First(row)
		if first <= last {
			t.Fatalf("the lowest bits of %x do not rise", basis)
		}
		last = first
		for j, other := range basis {
			if j != i && words.Get(other, first) {
				t.Fatalf("row %d of %x has the lowest bit of row %d", j, basis, i)
			}
		}
	}
}

// orders gives all orders of l.
func orders(l [][]uint64) [][][]uint64 {
	if len(l) == 0 {
		return [][][]uint64{nil}
	}
	var out [][][]uint64
	for i, v := range l {
		rest := append(slices.Clone(l[:i]), l[i+1:]...)
		for _, o := range orders(rest) {
			out = append(out, append(o, v))
		}
	}
	return out
}

// TestBasisAnyOrder (3.2): the same rows in all orders.
func TestBasisAnyOrder(t *testing.T) {
	for _, l := range [][][]uint64{
		low(3, 6, 5),
		low(3, 6, 5, 0, 3),
		low(1, 2, 4, 8, 15),
		low(9, 11, 14, 7, 22, 3),
		{{1, 1}, {1}, {0, 3}, {1 << 63, 1, 0}, {1 << 63, 0, 5}, nil},
		{{all}, {all, all}, {0, all, all}, {5, 5, 5}, {5, 0, 5}},
	} {
		want := echelon.Basis(l)
		reduced(t, want)
		for _, o := range orders(l) {
			if got := echelon.Basis(o); !sameRows(got, want) {
				t.Errorf("Basis(%x): %x, but %x of another order", o, got, want)
			}
		}
	}
}

// scattered gives n rows of up to most words, some of them of no bit, some the sum of two others.
func scattered(r *rand.Rand, n, most int) [][]uint64 {
	var l [][]uint64
	for i := range n {
		v := make([]uint64, r.IntN(most+1))
		for j := range v {
			// Few bits, so that rows meet by chance and miss each other by chance.
			v[j] = r.Uint64() & r.Uint64() & r.Uint64() & r.Uint64()
		}
		if i > 1 && r.IntN(4) == 0 {
			v = words.Xor(l[r.IntN(i)], l[r.IntN(i)])
		}
		l = append(l, v)
	}
	return l
}

// TestBasisShuffled (3.2): long lists, in many orders.
func TestBasisShuffled(t *testing.T) {
	r := rand.New(rand.NewPCG(3, 2))
	for n := range 60 {
		l := scattered(r, n*3, 3)
		want := echelon.Basis(l)
		reduced(t, want)
		if echelon.Rank(l) != len(want) {
			t.Fatalf("Rank: %d, not %d", echelon.Rank(l), len(want))
		}
		for range 5 {
			r.Shuffle(len(l), func(i, j int) { l[i], l[j] = l[j], l[i] })
			if !sameRows(echelon.Basis(l), want) {
				t.Fatalf("Basis(%x) is another one", l)
			}
		}
		for _, v := range l {
			if !echelon.In(want, v) {
				t.Fatalf("%x is not in %x", v, want)
			}
		}
	}
}

// number tells a row of bits as one number, which holds rows against each other another way.
func number(v []uint64) *big.Int {
	n := new(big.Int)
	for i, w := range v {
		n.Or(n, new(big.Int).Lsh(new(big.Int).SetUint64(w), uint(64*i)))
	}
	return n
}

func numbers(l [][]uint64) []*big.Int {
	out := make([]*big.Int, len(l))
	for i, v := range l {
		out[i] = number(v)
	}
	return out
}

func lowest(n *big.Int) int {
	if n.Sign() == 0 {
		return -1
	}
	return int(n.TrailingZeroBits())
}

func plainReduce(basis []*big.Int, v *big.Int) *big.Int {
	for _, b := range basis {
		if b.Sign() != 0 && v.Bit(lowest(b)) == 1 {
			v = new(big.Int).Xor(v, b)
		}
	}
	return v
}

// plainAdd tells Add in the chapter's words, of numbers.
func plainAdd(basis []*big.Int, v *big.Int) ([]*big.Int, bool) {
	r := plainReduce(basis, v)
	if r.Sign() == 0 {
		return basis, false
	}
	var out []*big.Int
	for _, b := range basis {
		if b.Bit(lowest(r)) == 1 {
			b = new(big.Int).Xor(b, r)
		}
		out = append(out, b)
	}
	for i, b := range out {
		if lowest(b) > lowest(r) {
			return slices.Insert(out, i, r), true
		}
	}
	return append(out, r), true
}

func sameNumbers(a, b []*big.Int) bool {
	return slices.EqualFunc(a, b, func(m, n *big.Int) bool { return m.Cmp(n) == 0 })
}

// TestPlain holds all calls against the plain ones, on any lists, not on bases alone.
func TestPlain(t *testing.T) {
	r := rand.New(rand.NewPCG(3, 1))
	for range 2000 {
		l := scattered(r, r.IntN(12), 2)
		v := scattered(r, 5, 3)[4]
		if r.IntN(2) == 0 {
			l, v = low(r.Uint64N(16), r.Uint64N(16), r.Uint64N(16), r.Uint64N(16)), []uint64{r.Uint64N(16)}
		}
		if got, want := echelon.Reduce(l, v), plainReduce(numbers(l), number(v)); number(got).Cmp(want) != 0 {
			t.Fatalf("Reduce(%x, %x): %x, not %x", l, v, got, want)
		}
		if got, want := echelon.In(l, v), plainReduce(numbers(l), number(v)).Sign() == 0; got != want {
			t.Fatalf("In(%x, %x): %t", l, v, got)
		}
		got, fresh := echelon.Add(l, v)
		want, is := plainAdd(numbers(l), number(v))
		if fresh != is || !sameNumbers(numbers(got), want) {
			t.Fatalf("Add(%x, %x): %x, %t, not %x, %t", l, v, got, fresh, want, is)
		}
		var basis []*big.Int
		for _, n := range numbers(l) {
			basis, _ = plainAdd(basis, n)
		}
		if got := echelon.Basis(l); !sameNumbers(numbers(got), basis) {
			t.Fatalf("Basis(%x): %x, not %x", l, got, basis)
		}
	}
}

// TestLongLists: calls on many short rows beside a long one end soon, for none copies the long one, or the basis, again and again.
func TestLongLists(t *testing.T) {
	// Each row takes the highest bit that is left and puts back all above it, as one counts down: so each one is xored.
	const digits = 18
	var l [][]uint64
	for left := uint64(1); left != 0; {
		row := uint64(1)<<digits - uint64(1)<<(bits.Len64(left)-1)
		l = append(l, []uint64{row})
		left ^= row
	}
	long := make([]uint64, len(l))
	long[0], long[len(l)-1] = 1, 7
	want := slices.Clone(long)
	want[0] = 0
	if got := echelon.Reduce(l, long); !words.Same(got, want) {
		t.Error("Reduce by a long list")
	}
	l = append(l, long)
	basis := echelon.Basis(l)
	if len(basis) != digits+1 || echelon.Rank(l) != digits+1 || !words.Same(basis[digits], want) {
		t.Errorf("Basis or Rank of a long list: %d, %d", len(basis), echelon.Rank(l))
	}
}

// TestLongRowAhead: a row of which only the last word has a bit is not gone through again for each short one.
func TestLongRowAhead(t *testing.T) {
	const size = 1 << 19
	long := make([]uint64, size)
	long[size-1] = 1
	l := [][]uint64{long}
	for i := range size {
		l = append(l, []uint64{uint64(i)})
	}
	basis := echelon.Basis(l)
	if len(basis) != 20 || !words.Same(basis[19], long) {
		t.Errorf("Basis of a long row and many short ones: %d", len(basis))
	}
}

// handed is what a call may be given, with words and rows behind the ends, to tell whether a call touches or keeps them.
type handed struct {
	list [][]uint64
	v    []uint64
}

var listRows = [][]uint64{{5, 1}, {0}, {6}, nil, {8, 0, 2}}

func behind(v []uint64) []uint64 {
	return append(slices.Clone(v), 0xDEAD, 0xBEEF)[:len(v)]
}

func hand(v ...uint64) handed {
	var l [][]uint64
	for _, row := range listRows {
		l = append(l, behind(row))
	}
	return handed{append(l, []uint64{0xDEAD}, []uint64{0xBEEF})[:len(l)], behind(v)}
}

func untouchedRow(row, was []uint64) bool {
	return slices.Equal(row, was) && slices.Equal(row[len(was):len(was)+2], []uint64{0xDEAD, 0xBEEF})
}

func (h handed) untouched(v ...uint64) bool {
	if len(h.list) != len(listRows) || !slices.EqualFunc(h.list, listRows, untouchedRow) {
		return false
	}
	more := h.list[:len(listRows)+2]
	return slices.Equal(more[len(listRows)], []uint64{0xDEAD}) && slices.Equal(more[len(listRows)+1], []uint64{0xBEEF}) && untouchedRow(h.v, v)
}

func spoilRow(v []uint64) {
	v = v[:cap(v)]
	for i := range v {
		v[i] = 0x5A5A5A5A5A5A5A5A
	}
}

// spoil overwrites all memory that a list can reach.
func spoil(l [][]uint64) {
	l = l[:cap(l)]
	for i := range l {
		spoilRow(l[i])
		l[i] = []uint64{0x5A}
	}
}

// givers are the calls that give rows, each as a list of them.
var givers = map[string]func(h handed) [][]uint64{
	"Reduce":         func(h handed) [][]uint64 { return [][]uint64{echelon.Reduce(h.list, h.v)} },
	"Reduce by none": func(h handed) [][]uint64 { return [][]uint64{echelon.Reduce(nil, h.v)} },
	"Reduce by itself": func(h handed) [][]uint64 {
		return [][]uint64{echelon.Reduce([][]uint64{h.v, h.v}, h.v)}
	},
	"Reduce no words": func(h handed) [][]uint64 { return [][]uint64{echelon.Reduce(h.list, h.v[:0])} },
	"Add":             func(h handed) [][]uint64 { l, _ := echelon.Add(h.list, h.v); return l },
	"Add to none":     func(h handed) [][]uint64 { l, _ := echelon.Add(nil, h.v); return l },
	"Add to no rows":  func(h handed) [][]uint64 { l, _ := echelon.Add(h.list[:0], h.v); return l },
	"Add no words":    func(h handed) [][]uint64 { l, _ := echelon.Add(h.list, nil); return l },
	"Add to itself":   func(h handed) [][]uint64 { l, _ := echelon.Add([][]uint64{h.v, h.v}, h.v); return l },
	"Add to one row twice": func(h handed) [][]uint64 {
		l, _ := echelon.Add([][]uint64{h.list[0], h.list[0]}, h.v)
		return l
	},
	"Basis":          func(h handed) [][]uint64 { return echelon.Basis(h.list) },
	"Basis of one":   func(h handed) [][]uint64 { return echelon.Basis(h.list[:1]) },
	"Basis of twice": func(h handed) [][]uint64 { return echelon.Basis([][]uint64{h.v, h.v, h.list[0]}) },
}

// someRows are v's that are in the span of listRows, beside it, longer and shorter.
var someRows = [][]uint64{{16}, {4}, {3, 1}, {0}, {64, 0, 0, 1}, {0, 1}}

// TestHandedIn (R4): no call changes what it is given, nor what lies behind a list's end.
func TestHandedIn(t *testing.T) {
	for _, v := range someRows {
		for name, give := range givers {
			h := hand(v...)
			give(h)
			if !h.untouched(v...) {
				t.Errorf("%s of %x changed what it was given: %x, %x", name, v, h.list, h.v)
			}
		}
		h := hand(v...)
		echelon.Rank(h.list)
		echelon.In(h.list, h.v)
		if !h.untouched(v...) {
			t.Errorf("Rank or In of %x changed what it was given: %x, %x", v, h.list, h.v)
		}
	}
}

// TestHandedOut (R4): rows that are given share no memory with what was handed in, with another answer, or with each other.
func TestHandedOut(t *testing.T) {
	for _, v := range someRows {
		for name, give := range givers {
			h := hand(v...)
			one, other := give(h), give(h)
			was := copied(other)
			spoil(one)
			if !h.untouched(v...) {
				t.Errorf("%s of %x: the answer shares memory with what was handed in", name, v)
			}
			if again := give(h); !sameRows(other, was) || !sameRows(again, was) {
				t.Errorf("%s of %x: two answers share memory", name, v)
			}
			spoil(h.list)
			spoilRow(h.v)
			if !sameRows(other, was) {
				t.Errorf("%s of %x: what was handed in is kept", name, v)
			}
			for i := range other {
				spoilRow(other[i])
				if !sameRows(other[i+1:], was[i+1:]) {
					t.Errorf("%s of %x: two rows of an answer share memory", name, v)
				}
			}
		}
	}
}
