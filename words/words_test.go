package words_test

import (
	"math"
	"slices"
	"testing"

	"bucketline/api"
	"bucketline/words"
)

const all = ^uint64(0)

// somewhere gives a row with words behind its end, to tell whether a call touches or keeps them.
func somewhere(v ...uint64) []uint64 {
	return append(slices.Clone(v), 0xDEAD, 0xBEEF)[:len(v)]
}

// untouched tells whether row, made by somewhere, is still v, behind its end too.
func untouched(row []uint64, v ...uint64) bool {
	return slices.Equal(row, v) && slices.Equal(row[len(v):len(v)+2], []uint64{0xDEAD, 0xBEEF})
}

// spoil overwrites all memory that a row can reach.
func spoil(row []uint64) {
	row = row[:cap(row)]
	for i := range row {
		row[i] = 0x5A5A5A5A5A5A5A5A
	}
}

var oddInts = []int{math.MinInt, math.MinInt + 1, -129, -65, -64, -63, -1, 0, 1, 63, 64, 65, 127, 128, 129, 192, math.MaxInt - 63, math.MaxInt - 1, math.MaxInt}

func TestSize(t *testing.T) {
	for k := -200; k <= 400; k++ {
		want := 0
		switch {
		case k >= 1 && k <= 64:
			want = 1
		case k >= 65 && k <= 128:
			want = 2
		}
		if got := words.Size(k); got != want {
			t.Errorf("Size(%d): %d, not %d", k, got, want)
		}
	}
	for _, k := range []int{math.MinInt, math.MaxInt, math.MaxInt - 63, 1 << 32, 1<<32 + 1} {
		if got := words.Size(k); got != 0 {
			t.Errorf("Size(%d): %d, not 0", k, got)
		}
	}
}

func TestValid(t *testing.T) {
	for _, c := range []struct {
		k    int
		v    []uint64
		want bool
	}{
		{1, []uint64{0}, true},
		{1, []uint64{1}, true},
		{1, []uint64{2}, false},
		{1, []uint64{1 << 63}, false},
		{3, []uint64{7}, true},
		{3, []uint64{8}, false},
		{63, []uint64{all >> 1}, true},
		{63, []uint64{all}, false},
		{64, []uint64{all}, true},
		{64, []uint64{all, 0}, false},
		{65, []uint64{all}, false},
		{65, []uint64{all, 0}, true},
		{65, []uint64{all, 1}, true},
		{65, []uint64{0, 2}, false},
		{65, []uint64{all, 3}, false},
		{127, []uint64{all, all >> 1}, true},
		{127, []uint64{0, 1 << 63}, false},
		{128, []uint64{all, all}, true},
		{128, []uint64{0, 0}, true},
		{128, []uint64{1}, false},
		{128, []uint64{1, 0, 0}, false},
		{129, []uint64{0, 0, 0}, false},
		{129, []uint64{0, 0}, false},
		{0, []uint64{0}, false},
		{0, []uint64{}, false},
		{0, nil, false},
		{1, nil, false},
		{129, nil, false},
		{-1, nil, false},
		{-64, []uint64{0}, false},
		{math.MinInt, nil, false},
		{math.MaxInt, nil, false},
		{math.MaxInt, []uint64{0}, false},
	} {
		if got := words.Valid(c.k, c.v); got != c.want {
			t.Errorf("Valid(%d, %x): %t", c.k, c.v, got)
		}
	}
}

// TestValidEachBit tries every bit of every row of as many words as it should have.
func TestValidEachBit(t *testing.T) {
	for k := 1; k <= api.MaxK; k++ {
		n := (k + 63) / 64
		for i := range 64 * n {
			v := make([]uint64, n)
			v[i/64] = 1 << (i % 64)
			if got := words.Valid(k, v); got != (i < k) {
				t.Errorf("Valid(%d, bit %d): %t", k, i, got)
			}
		}
	}
}

func TestGet(t *testing.T) {
	v := somewhere(1|1<<63, 0, 1<<5|1<<63)
	set := []int{0, 63, 133, 191}
	for i := -300; i <= 600; i++ {
		if got := words.Get(v, i); got != slices.Contains(set, i) {
			t.Errorf("Get(%d): %t", i, got)
		}
	}
	full := slices.Repeat([]uint64{all}, 3)
	for _, i := range oddInts {
		if got := words.Get(full, i); got != (i >= 0 && i < 192) {
			t.Errorf("Get of all bits, %d: %t", i, got)
		}
		if words.Get(nil, i) || words.Get([]uint64{}, i) {
			t.Errorf("Get of no words, %d: true", i)
		}
	}
}

func TestSet(t *testing.T) {
	for _, c := range []struct {
		v    []uint64
		i    int
		on   bool
		want []uint64
	}{
		{[]uint64{5, 1}, 1, true, []uint64{7, 1}},
		{[]uint64{5, 1}, 0, true, []uint64{5, 1}},
		{[]uint64{5, 1}, 0, false, []uint64{4, 1}},
		{[]uint64{5, 1}, 1, false, []uint64{5, 1}},
		{[]uint64{5, 1}, 63, true, []uint64{5 | 1<<63, 1}},
		{[]uint64{5, 1}, 64, false, []uint64{5, 0}},
		{[]uint64{5, 1}, 65, true, []uint64{5, 3}},
		{[]uint64{all, all}, 127, false, []uint64{all, all >> 1}},
		{[]uint64{0, 0, 0}, 128, true, []uint64{0, 0, 1}},
		{[]uint64{5, 1}, 128, true, []uint64{5, 1}},
		{[]uint64{5, 1}, 128, false, []uint64{5, 1}},
		{[]uint64{5}, 64, true, []uint64{5}},
		{nil, 0, true, nil},
		{[]uint64{}, 0, true, nil},
		{nil, -1, false, nil},
	} {
		if got := words.Set(c.v, c.i, c.on); !slices.Equal(got, c.want) {
			t.Errorf("Set(%x, %d, %t): %x, not %x", c.v, c.i, c.on, got, c.want)
		}
	}
}

func TestSetAnyInt(t *testing.T) {
	for _, i := range oddInts {
		for _, on := range []bool{true, false} {
			v := somewhere(0xF0, 0x0F)
			got := words.Set(v, i, on)
			if len(got) != 2 || !untouched(v, 0xF0, 0x0F) {
				t.Fatalf("Set(%d, %t): %x of %x", i, on, got, v)
			}
			for j := range 128 {
				want := words.Get(v, j)
				if j == i {
					want = on
				}
				if words.Get(got, j) != want {
					t.Errorf("Set(%d, %t): bit %d is not %t", i, on, j, want)
				}
			}
		}
	}
}

func TestXor(t *testing.T) {
	for _, c := range []struct{ a, b, want []uint64 }{
		{[]uint64{3}, []uint64{1}, []uint64{2}},
		{[]uint64{3}, []uint64{1, 4}, []uint64{2, 4}},
		{[]uint64{1, 4}, []uint64{3}, []uint64{2, 4}},
		{[]uint64{3, 5}, []uint64{3, 5}, []uint64{0, 0}},
		{[]uint64{all, 0, 9}, []uint64{1, all}, []uint64{all - 1, all, 9}},
		{[]uint64{7}, []uint64{0, 0, 0}, []uint64{7, 0, 0}},
		{nil, []uint64{6, 0}, []uint64{6, 0}},
		{[]uint64{6, 0}, nil, []uint64{6, 0}},
		{nil, nil, nil},
		{[]uint64{}, nil, nil},
	} {
		if got := words.Xor(c.a, c.b); !slices.Equal(got, c.want) {
			t.Errorf("Xor(%x, %x): %x, not %x", c.a, c.b, got, c.want)
		}
	}
}

func TestCount(t *testing.T) {
	for _, c := range []struct {
		v    []uint64
		want int
	}{
		{nil, 0},
		{[]uint64{}, 0},
		{[]uint64{0, 0}, 0},
		{[]uint64{5, 1}, 3},
		{[]uint64{1 << 63}, 1},
		{[]uint64{all, all, all}, 192},
		{[]uint64{0, 0, 0, 6}, 2},
		{somewhere(1)[:1], 1},
	} {
		if got := words.Count(c.v); got != c.want {
			t.Errorf("Count(%x): %d, not %d", c.v, got, c.want)
		}
	}
}

func TestFirst(t *testing.T) {
	for _, c := range []struct {
		v    []uint64
		want int
	}{
		{[]uint64{12}, 2},
		{[]uint64{1}, 0},
		{[]uint64{1 << 63}, 63},
		{[]uint64{0, 8}, 67},
		{[]uint64{0, 1, 1}, 64},
		{[]uint64{1 << 40, 1}, 40},
		{[]uint64{0, 0, 1 << 63}, 191},
		{[]uint64{0}, -1},
		{[]uint64{0, 0, 0}, -1},
		{[]uint64{}, -1},
		{nil, -1},
		{somewhere(0), -1},
	} {
		if got := words.First(c.v); got != c.want {
			t.Errorf("First(%x): %d, not %d", c.v, got, c.want)
		}
	}
}

func TestSame(t *testing.T) {
	for _, c := range []struct {
		a, b []uint64
		want bool
	}{
		{[]uint64{1}, []uint64{1}, true},
		{[]uint64{1}, []uint64{1, 0}, true},
		{[]uint64{1}, []uint64{1, 0, 0}, true},
		{[]uint64{1}, []uint64{1, 1}, false},
		{[]uint64{1}, []uint64{1, 0, 1 << 63}, false},
		{[]uint64{1}, []uint64{3}, false},
		{[]uint64{0, 1}, []uint64{1, 0}, false},
		{[]uint64{1, 2}, []uint64{1, 2}, true},
		{[]uint64{1, 2}, []uint64{1, 2 | 1<<63}, false},
		{nil, nil, true},
		{nil, []uint64{}, true},
		{nil, []uint64{0, 0}, true},
		{nil, []uint64{0, 1}, false},
		{[]uint64{1}, nil, false},
		{somewhere(1), []uint64{1}, true},
	} {
		if words.Same(c.a, c.b) != c.want || words.Same(c.b, c.a) != c.want {
			t.Errorf("Same(%x, %x): not %t both ways", c.a, c.b, c.want)
		}
	}
}

func TestUnit(t *testing.T) {
	for k := 1; k <= api.MaxK; k++ {
		for i := range k {
			want := make([]uint64, (k+63)/64)
			want[i/64] = 1 << (i % 64)
			if got := words.Unit(k, i); !slices.Equal(got, want) {
				t.Errorf("Unit(%d, %d): %x, not %x", k, i, got, want)
			}
		}
		for _, i := range []int{math.MinInt, -64, -1, k, k + 1, 128, 192, math.MaxInt} {
			if got := words.Unit(k, i); len(got) != 0 {
				t.Errorf("Unit(%d, %d): %x, not nothing", k, i, got)
			}
		}
	}
	for _, k := range []int{math.MinInt, -1, 0, 129, 192, math.MaxInt} {
		for _, i := range oddInts {
			if got := words.Unit(k, i); len(got) != 0 {
				t.Errorf("Unit(%d, %d): %x, not nothing", k, i, got)
			}
		}
	}
}

// TestHandedIn (R4): no call changes a row that it is given, nor what lies behind its end.
func TestHandedIn(t *testing.T) {
	for name, call := range map[string]func(a, b []uint64){
		"Valid":     func(a, b []uint64) { words.Valid(64, b); words.Valid(65, a); words.Valid(128, a) },
		"Get":       func(a, b []uint64) { words.Get(a, 1); words.Get(b, 64) },
		"Set":       func(a, b []uint64) { words.Set(a, 1, true); words.Set(a, 64, false); words.Set(b, 64, true) },
		"Xor":       func(a, b []uint64) { words.Xor(a, b) },
		"Xor again": func(a, b []uint64) { words.Xor(b, a) },
		"Count":     func(a, b []uint64) { words.Count(a); words.Count(b) },
		"First":     func(a, b []uint64) { words.First(a); words.First(b) },
		"Same":      func(a, b []uint64) { words.Same(a, b); words.Same(b, a) },
	} {
		a, b := somewhere(5, 1), somewhere(9)
		call(a, b)
		if !untouched(a, 5, 1) || !untouched(b, 9) {
			t.Errorf("%s changed what it was given: %x, %x", name, a[:4], b[:3])
		}
	}
}

// TestHandedOut (R4): a row that is given shares no memory with what was handed in, or with another answer.
func TestHandedOut(t *testing.T) {
	for name, call := range map[string]func(a, b []uint64) []uint64{
		"Set on":           func(a, b []uint64) []uint64 { return words.Set(a, 1, true) },
		"Set as it is":     func(a, b []uint64) []uint64 { return words.Set(a, 0, true) },
		"Set beyond":       func(a, b []uint64) []uint64 { return words.Set(a, 128, true) },
		"Set below 0":      func(a, b []uint64) []uint64 { return words.Set(a, -1, true) },
		"Xor":              func(a, b []uint64) []uint64 { return words.Xor(a, b) },
		"Xor of a shorter": func(a, b []uint64) []uint64 { return words.Xor(b, a) },
		"Xor with none":    func(a, b []uint64) []uint64 { return words.Xor(a, nil) },
		"Xor of none":      func(a, b []uint64) []uint64 { return words.Xor(nil, a) },
		"Xor with itself":  func(a, b []uint64) []uint64 { return words.Xor(a, a) },
		"Xor of no words":  func(a, b []uint64) []uint64 { return words.Xor(a[:0], b[:0]) },
		"Set of no words":  func(a, b []uint64) []uint64 { return words.Set(a[:0], 0, true) },
		"Unit":             func(a, b []uint64) []uint64 { return words.Unit(65, 64) },
		"Unit of nothing":  func(a, b []uint64) []uint64 { return words.Unit(65, 65) },
	} {
		a, b := somewhere(5, 1), somewhere(9)
		one, other := call(a, b), call(a, b)
		want := slices.Clone(other)
		spoil(one)
		if !untouched(a, 5, 1) || !untouched(b, 9) {
			t.Errorf("%s: the answer shares memory with what was handed in", name)
		}
		if !slices.Equal(other, want) || !slices.Equal(call(a, b), want) {
			t.Errorf("%s: two answers share memory", name)
		}
		spoil(a)
		spoil(b)
		if !slices.Equal(other, want) {
			t.Errorf("%s: what was handed in is kept", name)
		}
	}
}
