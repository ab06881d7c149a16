package span_test

import (
	"math/rand/v2"
	"slices"
	"testing"

	"bucketline/api"
	"bucketline/span"
	"bucketline/words"
)

const all = ^uint64(0)

// low gives rows of one word each.
func low(rows ...uint64) [][]uint64 {
	l := make([][]uint64, len(rows))
	for i, w := range rows {
		l[i] = []uint64{w}
	}
	return l
}

// unit gives the row of bit i alone, in as many words as it needs; it may lie beyond MaxK.
func unit(i int) []uint64 {
	return words.Set(make([]uint64, i/64+1), i, true)
}

// sum xors the rows of l at places.
func sum(l [][]uint64, places []int) []uint64 {
	var out []uint64
	for _, place := range places {
		out = words.Xor(out, l[place])
	}
	return out
}

func TestKeep(t *testing.T) {
	for _, c := range []struct {
		l    [][]uint64
		want []int
	}{
		{low(3, 3, 1), []int{0, 2}},
		{low(1, 2, 4), []int{0, 1, 2}},
		{low(4, 2, 1), []int{0, 1, 2}},
		{low(7), []int{0}},
		// In the span of those ahead: the same again, the xor of two, of three, of some that are not the nearest.
		{low(5, 5, 5), []int{0}},
		{low(3, 6, 5), []int{0, 1}},
		{low(1, 2, 4, 7), []int{0, 1, 2}},
		{low(1, 2, 4, 5), []int{0, 1, 2}},
		{low(3, 6, 12, 9, 10, 16, 1), []int{0, 1, 2, 5, 6}},
		// The rows ahead decide, not those behind: 1 is 2 xor 3, but they come later.
		{low(1, 2, 3), []int{0, 1}},
		{low(3, 2, 1), []int{0, 1}},
		{low(2, 3, 1), []int{0, 1}},
		// The lowest bits fall, so that what is kept is not in their order.
		{low(12, 6, 3, 9), []int{0, 1, 2}},
		{low(8, 12, 6, 7, 1), []int{0, 1, 2, 3}},
		// A row of no bit is never kept, wherever it stands.
		{low(0), nil},
		{low(0, 0, 0), nil},
		{low(0, 3, 0, 1, 0), []int{1, 3}},
		{[][]uint64{nil, {}, {0, 0, 0}}, nil},
		{[][]uint64{nil, {9}, {}, {9, 0}, {0, 9}}, []int{1, 4}},
		// None at all.
		{nil, nil},
		{[][]uint64{}, nil},
		// Rows of several lengths.
		{[][]uint64{{1}, {1, 0}, {1, 1}, {0, 1}, {0, 2}}, []int{0, 2, 4}},
		{[][]uint64{{0, 0, 1}, {1}, {1, 0, 1}, {0, 1}}, []int{0, 1, 3}},
		{[][]uint64{{1 << 63}, {0, 1}, {1 << 63, 1}}, []int{0, 1}},
		{[][]uint64{{all, all, all}, {all, all}, {all}, {0, all}, {0, 0, all}}, []int{0, 1, 2}},
	} {
		if got := span.Keep(c.l); !slices.Equal(got, c.want) {
			t.Errorf("Keep(%x): %v, not %v", c.l, got, c.want)
		}
	}
}

func TestExpress(t *testing.T) {
	for _, c := range []struct {
		l    [][]uint64
		v    []uint64
		want []int
		is   bool
	}{
		{low(3, 3, 1), []uint64{2}, []int{0, 2}, true},
		{low(3, 3, 1), []uint64{3}, []int{0}, true},
		{low(3, 3, 1), []uint64{1}, []int{2}, true},
		// Rows that are not kept are not named, even if they alone are v.
		{low(1, 2, 3), []uint64{3}, []int{0, 1}, true},
		{low(3, 6, 5, 8), []uint64{5}, []int{0, 1}, true},
		{low(3, 6, 5, 8), []uint64{13}, []int{0, 1, 3}, true},
		{low(0, 0, 5, 0, 5, 6), []uint64{3}, []int{2, 5}, true},
		// Places rise, whatever the order of the bits.
		{low(8, 4, 2, 1), []uint64{15}, []int{0, 1, 2, 3}, true},
		{low(8, 4, 2, 1), []uint64{10}, []int{0, 2}, true},
		{low(12, 6, 3), []uint64{9}, []int{0, 1, 2}, true},
		{low(15, 7, 3, 1), []uint64{8}, []int{0, 1}, true},
		{low(15, 7, 3, 1), []uint64{5}, []int{1, 2, 3}, true},
		// v of no bit: no row, and true.
		{low(3, 3, 1), []uint64{0}, nil, true},
		{low(3, 3, 1), nil, nil, true},
		{low(3, 3, 1), []uint64{0, 0, 0}, nil, true},
		{low(0, 0), []uint64{0}, nil, true},
		{nil, nil, nil, true},
		{nil, []uint64{0, 0}, nil, true},
		{[][]uint64{}, []uint64{}, nil, true},
		// v that is not in the span.
		{low(3, 3, 1), []uint64{4}, nil, false},
		{low(3, 3, 1), []uint64{7}, nil, false},
		{low(3, 6, 5), []uint64{1}, nil, false},
		{low(3, 6, 5), []uint64{7}, nil, false},
		{low(0), []uint64{1}, nil, false},
		{nil, []uint64{1}, nil, false},
		{[][]uint64{}, []uint64{0, 1 << 63}, nil, false},
		{[][]uint64{nil, {}}, []uint64{all}, nil, false},
		// Rows of several lengths, and v longer or shorter than they.
		{[][]uint64{{1, 1}, {1}, {0, 3}}, []uint64{0, 2}, []int{0, 1, 2}, true},
		{[][]uint64{{1, 1}, {1}, {0, 3}}, []uint64{0, 1}, []int{0, 1}, true},
		{[][]uint64{{1, 1}, {1}, {0, 3}}, []uint64{1, 0, 0, 0}, []int{1}, true},
		{[][]uint64{{1, 1}, {0, 1}, {0, 3}}, []uint64{1}, []int{0, 1}, true},
		{[][]uint64{{1, 1}, {0, 3}}, []uint64{1}, nil, false},
		{low(1, 2), []uint64{3, 1}, nil, false},
		{low(1, 2), []uint64{3, 0, 1 << 63}, nil, false},
		{low(1, 2), []uint64{0, 1}, nil, false},
		{low(1, 2), []uint64{0, 3}, nil, false},
		{[][]uint64{{0, 1}, {0, 2}}, []uint64{3}, nil, false},
		{[][]uint64{{0, 0, 1}, {1 << 63, 0, 1}}, []uint64{1 << 63}, []int{0, 1}, true},
	} {
		got, is := span.Express(c.l, c.v)
		if is != c.is || !slices.Equal(got, c.want) {
			t.Errorf("Express(%x, %x): %v, %t, not %v, %t", c.l, c.v, got, is, c.want, c.is)
		}
	}
}

func TestFresh(t *testing.T) {
	for _, c := range []struct {
		l    [][]uint64
		v    []uint64
		want bool
	}{
		{low(3, 3, 1), []uint64{2}, false},
		{low(3, 3, 1), []uint64{3}, false},
		{low(3, 3, 1), []uint64{4}, true},
		{low(3, 3, 1), []uint64{6}, true},
		{low(12, 6, 3), []uint64{9}, false},
		{low(12, 6, 3), []uint64{8}, true},
		// v of no bit is in every span.
		{low(3), []uint64{0}, false},
		{low(3), nil, false},
		{nil, nil, false},
		{nil, []uint64{0, 0}, false},
		{low(0), []uint64{0}, false},
		// None at all.
		{nil, []uint64{1}, true},
		{[][]uint64{}, []uint64{0, 1 << 63}, true},
		{[][]uint64{nil, {}, {0}}, []uint64{1}, true},
		// Rows of several lengths.
		{low(1), []uint64{1, 0, 0}, false},
		{low(1), []uint64{1, 0, 1}, true},
		{[][]uint64{{1, 1}, {0, 1}}, []uint64{1}, false},
		{[][]uint64{{1, 1}, {0, 2}}, []uint64{1}, true},
		{[][]uint64{{0, 1}}, []uint64{1}, true},
	} {
		if got := span.Fresh(c.l, c.v); got != c.want {
			t.Errorf("Fresh(%x, %x): %t", c.l, c.v, got)
		}
	}
}

// choices gives for each xor of rows, at the places that are offered, all choices of them that make it.
func choices(rows []uint64, offered []int) map[uint64][][]int {
	out := map[uint64][][]int{}
	for choice := range 1 << len(offered) {
		var v uint64
		var places []int
		for i, place := range offered {
			if choice>>i&1 == 1 {
				v ^= rows[place]
				places = append(places, place)
			}
		}
		out[v] = append(out[v], places)
	}
	return out
}

// upTo gives the numbers below n.
func upTo(n int) []int {
	var out []int
	for i := range n {
		out = append(out, i)
	}
	return out
}

// plainKeep tells Keep in the chapter's words, choice by choice.
func plainKeep(rows []uint64) []int {
	var kept []int
	for i, row := range rows {
		if len(choices(rows, upTo(i))[row]) == 0 {
			kept = append(kept, i)
		}
	}
	return kept
}

// each calls f with every list of n rows of the given number of bits.
func each(n, bits int, f func(rows []uint64)) {
	for code := range 1 << (bits * n) {
		rows := make([]uint64, n)
		for i := range rows {
			rows[i] = uint64(code >> (bits * i) & (1<<bits - 1))
		}
		f(rows)
	}
}

// holdAgainstChoices fails, unless the calls on rows, and on each v of the bits, are what all choices tell.
func holdAgainstChoices(t *testing.T, rows []uint64, bits int) {
	t.Helper()
	l := low(rows...)
	kept := plainKeep(rows)
	if got := span.Keep(l); !slices.Equal(got, kept) {
		t.Fatalf("Keep(%v): %v, not %v", rows, got, kept)
	}
	whole, some := choices(rows, upTo(len(rows))), choices(rows, kept)
	for v := range uint64(1) << bits {
		in := len(whole[v]) > 0
		got, is := span.Express(l, []uint64{v})
		if is != in || span.Fresh(l, []uint64{v}) == in {
			t.Fatalf("Express(%v, %d): %v, %t; Fresh: %t", rows, v, got, is, !in)
		}
		if !in {
			if len(got) != 0 || len(some[v]) != 0 {
				t.Fatalf("Express(%v, %d): %v beside false", rows, v, got)
			}
			continue
		}
		// 4.2: what is in the span has one choice among the kept rows, not more, not none.
		if len(some[v]) != 1 {
			t.Fatalf("%v among %v: %d choices make %d", kept, rows, len(some[v]), v)
		}
		if !slices.Equal(got, some[v][0]) {
			t.Fatalf("Express(%v, %d): %v, not %v", rows, v, got, some[v][0])
		}
	}
}

// TestEachShortList (4.1, 4.2) holds every short list against all choices of its rows.
func TestEachShortList(t *testing.T) {
	for _, c := range []struct{ most, bits int }{{3, 4}, {4, 3}, {6, 2}} {
		for n := range c.most + 1 {
			each(n, c.bits, func(rows []uint64) { holdAgainstChoices(t, rows, c.bits) })
		}
	}
}

// TestAnyShortList (4.1, 4.2): longer lists of more bits, as chance has them.
func TestAnyShortList(t *testing.T) {
	r := rand.New(rand.NewPCG(4, 2))
	for range 300 {
		rows := make([]uint64, r.IntN(9))
		for i := range rows {
			rows[i] = r.Uint64N(64)
		}
		holdAgainstChoices(t, rows, 6)
	}
}

// TestKeptAgain (4.2): the kept rows alone are all kept, and each choice of them is told as it was made.
func TestKeptAgain(t *testing.T) {
	r := rand.New(rand.NewPCG(4, 1))
	for n := range 40 {
		l := scattered(r, n*4, 4)
		kept := span.Keep(l)
		var alone [][]uint64
		for _, place := range kept {
			alone = append(alone, l[place])
		}
		if got := span.Keep(alone); !slices.Equal(got, upTo(len(kept))) {
			t.Fatalf("Keep of %d kept rows: %v", len(kept), got)
		}
		for range 10 {
			var want []int
			for _, place := range kept {
				if r.IntN(2) == 0 {
					want = append(want, place)
				}
			}
			v := sum(l, want)
			if got, is := span.Express(l, v); !is || !slices.Equal(got, want) {
				t.Fatalf("Express(%x, %x): %v, %t, not %v", l, v, got, is, want)
			}
			if span.Fresh(l, v) {
				t.Fatalf("Fresh(%x, %x)", l, v)
			}
		}
		holdRows(t, l, kept)
	}
}

// holdRows fails, unless the rows of l are told: a kept one as itself, others by kept ones ahead of them.
func holdRows(t *testing.T, l [][]uint64, kept []int) {
	t.Helper()
	for i, row := range l {
		got, is := span.Express(l, row)
		if !is || !slices.IsSorted(got) || !words.Same(sum(l, got), row) {
			t.Fatalf("Express(%x, %x): %v, %t", l, row, got, is)
		}
		if slices.Contains(kept, i) {
			if !slices.Equal(got, []int{i}) || !span.Fresh(l[:i], row) {
				t.Fatalf("row %d of %x is kept, but told by %v", i, l, got)
			}
			continue
		}
		if span.Fresh(l[:i], row) || len(got) > 0 && got[len(got)-1] > i {
			t.Fatalf("row %d of %x is not kept, and told by %v", i, l, got)
		}
	}
}

// scattered gives n rows of up to most words, some of them of no bit, some the sum of two others.
func scattered(r *rand.Rand, n, most int) [][]uint64 {
	var l [][]uint64
	for i := range n {
		v := make([]uint64, r.IntN(most+1))
		for j := range v {
			// Few bits, so that rows meet by chance and miss each other by chance.
			v[j] = r.Uint64() & r.Uint64() & r.Uint64() & r.Uint64()
		}
		if i > 1 && r.IntN(4) == 0 {
			v = words.Xor(l[r.IntN(i)], l[r.IntN(i)])
		}
		l = append(l, v)
	}
	return l
}

// TestManyRows: as many rows as fill one word of marks, and just more; more than MaxK too, for the chapter sets no limit.
func TestManyRows(t *testing.T) {
	for _, k := range []int{1, 31, 32, 33, 63, 64, 65, 127, api.MaxK, 129, 200, 300} {
		var l [][]uint64
		for i := range k {
			l = append(l, words.Xor(unit(i), unit(i+1)))
		}
		if got := span.Keep(l); !slices.Equal(got, upTo(k)) {
			t.Fatalf("Keep of %d chained rows: %v", k, got)
		}
		ends := words.Xor(unit(0), unit(k))
		if got, is := span.Express(l, ends); !is || !slices.Equal(got, upTo(k)) || span.Fresh(l, ends) {
			t.Errorf("Express of %d chained rows and both ends: %v, %t", k, got, is)
		}
		if got, is := span.Express(l, unit(k)); is || len(got) != 0 || !span.Fresh(l, unit(k)) {
			t.Errorf("Express of %d chained rows and one end: %v, %t", k, got, is)
		}
		if got, is := span.Express(l, l[k-1]); !is || !slices.Equal(got, []int{k - 1}) {
			t.Errorf("Express of %d chained rows and the last: %v, %t", k, got, is)
		}
	}
}

// TestLongLists: calls on many short rows beside long ones end soon, for none makes them all long.
func TestLongLists(t *testing.T) {
	const many, size = 1 << 18, 1 << 20
	long := make([]uint64, size)
	long[0], long[size-1] = 1, 1<<63
	var l [][]uint64
	for i := range 64 {
		l = append(l, []uint64{1 << i})
	}
	l = append(l, long)
	for i := range many {
		l = append(l, []uint64{uint64(i)})
	}
	if got := span.Keep(l); !slices.Equal(got, upTo(65)) {
		t.Errorf("Keep of a long list: %v", got)
	}
	v := make([]uint64, size)
	v[size-1] = 1 << 63
	if got, is := span.Express(l, v); !is || !slices.Equal(got, []int{0, 64}) || span.Fresh(l, v) {
		t.Errorf("Express of a long list: %v, %t", got, is)
	}
	v[size/2] = 1
	if got, is := span.Express(l, v); is || len(got) != 0 || !span.Fresh(l, v) {
		t.Errorf("Express of a long list: %v, %t", got, is)
	}
}

// handed is what a call may be given, with words and rows behind the ends, to tell whether a call touches or keeps them.
type handed struct {
	list [][]uint64
	v    []uint64
}

var listRows = [][]uint64{{5, 1}, {0}, {6}, nil, {5, 1}, {8, 0, 2}, {3, 1}}

func behind(v []uint64) []uint64 {
	return append(slices.Clone(v), 0xDEAD, 0xBEEF)[:len(v)]
}

func hand(v ...uint64) handed {
	var l [][]uint64
	for _, row := range listRows {
		l = append(l, behind(row))
	}
	return handed{append(l, []uint64{0xDEAD}, []uint64{0xBEEF})[:len(l)], behind(v)}
}

func untouchedRow(row, was []uint64) bool {
	return slices.Equal(row, was) && slices.Equal(row[len(was):len(was)+2], []uint64{0xDEAD, 0xBEEF})
}

func (h handed) untouched(v ...uint64) bool {
	if len(h.list) != len(listRows) || !slices.EqualFunc(h.list, listRows, untouchedRow) {
		return false
	}
	more := h.list[:len(listRows)+2]
	return slices.Equal(more[len(listRows)], []uint64{0xDEAD}) && slices.Equal(more[len(listRows)+1], []uint64{0xBEEF}) && untouchedRow(h.v, v)
}

func spoilRow(v []uint64) {
	v = v[:cap(v)]
	for i := range v {
		v[i] = 0x5A5A5A5A5A5A5A5A
	}
}

func spoil(l []int) {
	l = l[:cap(l)]
	for i := range l {
		l[i] = -7
	}
}

// givers are the calls that give places; the list is handed in whole, in part, and more than once.
var givers = map[string]func(h handed) []int{
	"Keep":                func(h handed) []int { return span.Keep(h.list) },
	"Keep of one":         func(h handed) []int { return span.Keep(h.list[:1]) },
	"Keep of v twice":     func(h handed) []int { return span.Keep([][]uint64{h.v, h.v, h.list[0]}) },
	"Express":             func(h handed) []int { at, _ := span.Express(h.list, h.v); return at },
	"Express a row":       func(h handed) []int { at, _ := span.Express(h.list, h.list[6]); return at },
	"Express by itself":   func(h handed) []int { at, _ := span.Express([][]uint64{h.v, h.v}, h.v); return at },
	"Express by no rows":  func(h handed) []int { at, _ := span.Express(h.list[:0], h.v); return at },
	"Express of no words": func(h handed) []int { at, _ := span.Express(h.list, h.v[:0]); return at },
}

// someRows are v's that are in the span of listRows, beside it, longer and shorter.
var someRows = [][]uint64{{16}, {4}, {3, 1}, {11, 1, 2}, {0}, {64, 0, 0, 1}, {6, 0, 0, 0}}

// TestHandedIn (R4): no call changes what it is given, nor what lies behind a list's end.
func TestHandedIn(t *testing.T) {
	for _, v := range someRows {
		for name, give := range givers {
			h := hand(v...)
			give(h)
			if !h.untouched(v...) {
				t.Errorf("%s of %x changed what it was given: %x, %x", name, v, h.list, h.v)
			}
		}
		h := hand(v...)
		span.Fresh(h.list, h.v)
		if !h.untouched(v...) {
			t.Errorf("Fresh of %x changed what it was given: %x, %x", v, h.list, h.v)
		}
	}
}

// TestHandedOut (R4): places that are given share no memory with another answer, and nothing that was handed in is kept.
func TestHandedOut(t *testing.T) {
	for _, v := range someRows {
		for name, give := range givers {
			h := hand(v...)
			one, other := give(h), give(h)
			was := slices.Clone(other)
			spoil(one)
			if again := give(h); !slices.Equal(other, was) || !slices.Equal(again, was) {
				t.Errorf("%s of %x: two answers share memory", name, v)
			}
			if !h.untouched(v...) {
				t.Errorf("%s of %x: the answer shares memory with what was handed in", name, v)
			}
			for _, row := range h.list {
				spoilRow(row)
			}
			spoilRow(h.v)
			if got := give(hand(v...)); !slices.Equal(other, was) || !slices.Equal(got, was) {
				t.Errorf("%s of %x: what was handed in is kept", name, v)
			}
		}
	}
}
