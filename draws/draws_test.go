package draws_test

import (
	"math"
	"math/big"
	"math/rand/v2"
	"slices"
	"testing"
	"time"

	"bucketline/api"
	"bucketline/draws"
)

// golden is the number that the draws behind a list are made of.
const golden = "9E3779B97F4A7C15"

// oddInts are numbers at the ends of what an int may be, and such as a smaller kind of number would take for others.
var oddInts = []int{
	math.MinInt, math.MinInt + 1, math.MinInt + 128, -1 << 62, -1 << 44, -1 << 32, -1<<32 + 5, -1 << 31, -129, -128, -2, -1, 0,
	1 << 31, 1<<31 - 1, 1 << 32, 1<<32 - 1, 1<<32 + 1, 1<<32 + 5, 1<<32 + 128, 1 << 44, 1 << 62, math.MaxInt - 1, math.MaxInt,
}

// model is what the chapter says of draws, word by word, with numbers that can't wrap.
type model struct {
	list  []uint64
	calls int
}

func (m *model) next() uint64 {
	m.calls++
	if m.calls <= len(m.list) {
		return m.list[m.calls-1]
	}
	return behind(int64(m.calls))
}

// behind gives the draw of the n-th call, if it is behind the list.
func behind(n int64) uint64 {
	product, _ := new(big.Int).SetString(golden, 16)
	product.Mul(product, big.NewInt(n))
	return product.Mod(product, new(big.Int).Lsh(big.NewInt(1), 64)).Uint64()
}

func (m *model) below(n int) int {
	if n < 1 {
		return 0
	}
	draw := new(big.Int).SetUint64(m.next())
	return int(draw.Mod(draw, big.NewInt(int64(n))).Int64())
}

func (m *model) distinct(n, k int) []int {
	if n < 0 || n > 128 {
		return nil
	}
	taken := make([]bool, n)
	for i := 0; i < k && i < n; i++ {
		j := m.below(n - i)
		for number := range n {
			if taken[number] {
				continue
			}
			if j == 0 {
				taken[number] = true
				break
			}
			j--
		}
	}
	var out []int
	for number := range n {
		if taken[number] {
			out = append(out, number)
		}
	}
	return out
}

// checkUsed fails, unless as many draws were used.
func checkUsed(t *testing.T, d *draws.Draws, want int) {
	t.Helper()
	if got := d.Used(); got != want {
		t.Fatalf("%d draws used, not %d", got, want)
	}
}

// checkNext fails, unless the next draws are these.
func checkNext(t *testing.T, d *draws.Draws, want ...uint64) {
	t.Helper()
	for i, w := range want {
		if got := d.Next(); got != w {
			t.Fatalf("Next, %d: %d, not %d", i, got, w)
		}
	}
}

// The chapter's examples.
func TestExamples(t *testing.T) {
	d := draws.New([]uint64{5, 1})
	if got := d.Below(3); got != 2 {
		t.Errorf("Below(3): %d, not 2", got)
	}
	if got := d.Distinct(2, 1); !slices.Equal(got, []int{1}) {
		t.Errorf("Distinct(2, 1): %v, not 1", got)
	}
	checkUsed(t, d, 2)
}

func TestNext(t *testing.T) {
	for _, c := range []struct {
		l, want []uint64
	}{
		{nil, []uint64{0x9E3779B97F4A7C15, 0x3C6EF372FE94F82A, 0xDAA66D2C7DDF743F}},
		{[]uint64{}, []uint64{0x9E3779B97F4A7C15, 0x3C6EF372FE94F82A, 0xDAA66D2C7DDF743F}},
		// Behind a list of one, the next call is the second in all.
		{[]uint64{7}, []uint64{7, 0x3C6EF372FE94F82A, 0xDAA66D2C7DDF743F, 0x78DDE6E5FD29F054}},
		{[]uint64{0}, []uint64{0, 0x3C6EF372FE94F82A}},
		{[]uint64{math.MaxUint64}, []uint64{math.MaxUint64, 0x3C6EF372FE94F82A}},
		{[]uint64{5, 1, 7}, []uint64{5, 1, 7, 0x78DDE6E5FD29F054, 0x1715609F7C746C69}},
		{[]uint64{0, 0}, []uint64{0, 0, 0xDAA66D2C7DDF743F}},
		{[]uint64{math.MaxUint64, 0, math.MaxUint64, 1 << 63, 1<<63 - 1, 1 << 32}, []uint64{math.MaxUint64, 0, math.MaxUint64, 1 << 63, 1<<63 - 1, 1 << 32, 0x538454127B096493}},
		{[]uint64{3, 3, 3}, []uint64{3, 3, 3, 0x78DDE6E5FD29F054}},
	} {
		d := draws.New(c.l)
		checkUsed(t, d, 0)
		for i, want := range c.want {
			if got := d.Next(); got != want {
				t.Errorf("of %v, Next %d: %#x, not %#x", c.l, i+1, got, want)
			}
			checkUsed(t, d, i+1)
		}
	}
}

// Behind lists of many lengths, a long way: the product wraps nearly each second time.
func TestNextBehind(t *testing.T) {
	for _, size := range []int{0, 1, 2, 3, 63, 64, 65, 127, 128, 129, 255, 256, 257, 1000} {
		l := make([]uint64, size)
		for i := range l {
			l[i] = uint64(i * i)
		}
		d := draws.New(l)
		checkNext(t, d, l...)
		for n := size + 1; n <= size+2000; n++ {
			if got, want := d.Next(), behind(int64(n)); got != want {
				t.Fatalf("behind %d draws, Next %d: %#x, not %#x", size, n, got, want)
			}
		}
		checkUsed(t, d, size+2000)
	}
}

func TestBelow(t *testing.T) {
	for _, c := range []struct {
		draw uint64
		n    int
		want int
	}{
		{5, 3, 2}, {5, 5, 0}, {5, 6, 5}, {5, 4, 1}, {6, 3, 0}, {0, 3, 0},
		{0, 1, 0}, {1, 1, 0}, {7, 1, 0}, {math.MaxUint64, 1, 0},
		{0, math.MaxInt, 0},
		{0, 2, 0}, {1, 2, 1}, {2, 2, 0},
		// The greatest draw leaves 0 modulo 3 and 5, 1 modulo 7.
		{math.MaxUint64, 2, 1}, {math.MaxUint64, 3, 0}, {math.MaxUint64, 5, 0}, {math.MaxUint64, 7, 1}, {math.MaxUint64, 10, 5}, {math.MaxUint64, 128, 127},
		// Draws that would be below 0 as an int.
		{1 << 63, 3, 2}, {1 << 63, 5, 3}, {1<<63 + 1, 3, 0}, {1<<63 + 3, 10, 1},
		// Draws and numbers of which the lowest 32 bits say another thing.
		{1 << 32, 3, 1}, {1<<32 + 5, 1<<32 + 1, 4}, {1 << 32, 1 << 32, 0}, {1<<32 - 1, 1 << 32, 1<<32 - 1}, {7, 1 << 32, 7},
		{math.MaxInt, math.MaxInt, 0}, {math.MaxInt - 1, math.MaxInt, math.MaxInt - 1}, {math.MaxInt + 1, math.MaxInt, 1},
		{math.MaxUint64, math.MaxInt, 1}, {math.MaxUint64 - 1, math.MaxInt, 0}, {math.MaxUint64 - 2, math.MaxInt, math.MaxInt - 1},
		{math.MaxUint64, 1 << 62, 1<<62 - 1}, {math.MaxUint64, math.MaxInt - 1, 3},
	} {
		d := draws.New([]uint64{c.draw, 9})
		if got := d.Below(c.n); got != c.want {
			t.Errorf("of %d, Below(%d): %d, not %d", c.draw, c.n, got, c.want)
		}
		checkUsed(t, d, 1)
		checkNext(t, d, 9)
	}
}

// Below of 0 or less uses no draw: ahead of a list, within it, at its end and behind it.
func TestBelowNone(t *testing.T) {
	d := draws.New([]uint64{5, math.MaxUint64})
	for calls, want := range []uint64{5, math.MaxUint64, 0xDAA66D2C7DDF743F, 0x78DDE6E5FD29F054} {
		for _, n := range oddInts {
			if n > 0 {
				continue
			}
			if got := d.Below(n); got != 0 {
				t.Errorf("Below(%d): %d", n, got)
			}
			checkUsed(t, d, calls)
		}
		checkNext(t, d, want)
	}
}

// Below of 1 is 0, but a draw is used; and behind a list, Below goes by what Next would be.
func TestBelowBehind(t *testing.T) {
	d := draws.New([]uint64{4})
	for i := range 3 {
		if got := d.Below(1); got != 0 {
			t.Errorf("Below(1): %d", got)
		}
		checkUsed(t, d, i+1)
	}
	// The fourth and the fifth call in all.
	if got := d.Below(100); got != int(uint64(0x78DDE6E5FD29F054)%100) {
		t.Errorf("Below(100): %d", got)
	}
	if got := d.Below(math.MaxInt); got != 0x1715609F7C746C69 {
		t.Errorf("Below of the greatest: %d", got)
	}
	checkUsed(t, d, 5)
	m := &model{calls: 5}
	for n := range 500 {
		if got, want := d.Below(n), m.below(n); got != want {
			t.Errorf("behind, Below(%d): %d, not %d", n, got, want)
		}
		checkUsed(t, d, m.calls)
	}
}

func TestDistinct(t *testing.T) {
	for _, c := range []struct {
		l    []uint64
		n, k int
		want []int
		used int
	}{
		{[]uint64{1, 7}, 4, 2, []int{1, 2}, 2},
		{[]uint64{1}, 2, 1, []int{1}, 1},
		{nil, 3, 9, []int{0, 1, 2}, 3},
		{nil, 3, 3, []int{0, 1, 2}, 3},
		// None, one, all: the last is taken by a draw, too.
		{[]uint64{9}, 0, 0, nil, 0},
		{[]uint64{9}, 0, 1, nil, 0},
		{[]uint64{9}, 0, -1, nil, 0},
		{[]uint64{9}, 1, 0, nil, 0},
		{[]uint64{9}, 1, 1, []int{0}, 1},
		{[]uint64{9}, 1, 2, []int{0}, 1},
		{[]uint64{9}, 5, 0, nil, 0},
		{[]uint64{9}, 5, -1, nil, 0},
		{[]uint64{9}, 5, math.MinInt, nil, 0},
		{[]uint64{0, 0, 0, 0}, 4, math.MaxInt, []int{0, 1, 2, 3}, 4},
		{[]uint64{0, 0, 0, 0}, 4, 5, []int{0, 1, 2, 3}, 4},
		{[]uint64{0, 0, 0, 0}, 4, 4, []int{0, 1, 2, 3}, 4},
		{[]uint64{0, 0, 0, 0}, 4, 3, []int{0, 1, 2}, 3},
		// The first, the last, one between.
		{[]uint64{0}, 5, 1, []int{0}, 1},
		{[]uint64{4}, 5, 1, []int{4}, 1},
		{[]uint64{5}, 5, 1, []int{0}, 1},
		{[]uint64{2}, 5, 1, []int{2}, 1},
		{[]uint64{math.MaxUint64}, 7, 1, []int{1}, 1},
		{[]uint64{math.MaxUint64, math.MaxUint64, math.MaxUint64}, 8, 3, []int{1, 4, 7}, 3},
		// What is taken already is not counted, whether it stands ahead, between or behind.
		{[]uint64{0, 0}, 5, 2, []int{0, 1}, 2},
		{[]uint64{0, 3}, 5, 2, []int{0, 4}, 2},
		{[]uint64{4, 3}, 5, 2, []int{3, 4}, 2},
		{[]uint64{4, 0}, 5, 2, []int{0, 4}, 2},
		{[]uint64{2, 2}, 5, 2, []int{2, 3}, 2},
		{[]uint64{2, 1}, 5, 2, []int{1, 2}, 2},
		{[]uint64{1, 2, 1}, 5, 3, []int{1, 2, 3}, 3},
		{[]uint64{3, 1, 1}, 5, 3, []int{1, 2, 3}, 3},
		{[]uint64{1, 1, 1}, 5, 3, []int{1, 2, 3}, 3},
		{[]uint64{0, 1, 2}, 5, 3, []int{0, 2, 4}, 3},
		{[]uint64{3, 1, 2}, 5, 3, []int{1, 3, 4}, 3},
		// The second draw counts modulo one less, the third modulo two less.
		{[]uint64{0, 4}, 5, 2, []int{0, 1}, 2},
		{[]uint64{0, 5}, 5, 2, []int{0, 2}, 2},
		{[]uint64{0, 0, 3}, 5, 3, []int{0, 1, 2}, 3},
		{[]uint64{0, 0, 5}, 5, 3, []int{0, 1, 4}, 3},
		{[]uint64{5, 5, 5}, 5, 3, []int{0, 2, 4}, 3},
		// Behind the list: the second call is 0x3C6EF372FE94F82A, which is even.
		{[]uint64{2}, 3, 2, []int{0, 2}, 2},
		// Beyond the limits.
		{[]uint64{9}, -1, 1, nil, 0},
		{[]uint64{9}, -1, -1, nil, 0},
		{[]uint64{9}, -1, 0, nil, 0},
		{[]uint64{9}, 129, 1, nil, 0},
		{[]uint64{9}, 129, 129, nil, 0},
		{[]uint64{9}, 129, 0, nil, 0},
		{[]uint64{9}, math.MaxInt, 1, nil, 0},
		{[]uint64{9}, math.MinInt, 1, nil, 0},
		{[]uint64{9}, math.MaxInt, math.MaxInt, nil, 0},
		{[]uint64{9}, math.MinInt, math.MinInt, nil, 0},
		{[]uint64{9}, math.MinInt, math.MaxInt, nil, 0},
		{[]uint64{9}, 1<<32 + 5, 1, nil, 0},
		{[]uint64{9}, -1<<32 + 5, 1, nil, 0},
		{[]uint64{9}, 5, -1<<32 + 1, nil, 0},
		{[]uint64{127}, 128, 1, []int{127}, 1},
		{[]uint64{128}, 128, 1, []int{0}, 1},
		{[]uint64{127, 126, 125}, 128, 3, []int{125, 126, 127}, 3},
	} {
		d := draws.New(c.l)
		if got := d.Distinct(c.n, c.k); !slices.Equal(got, c.want) {
			t.Errorf("of %v, Distinct(%d, %d): %v, not %v", c.l, c.n, c.k, got, c.want)
		}
		checkUsed(t, d, c.used)
		m := &model{list: c.l, calls: c.used}
		checkNext(t, d, m.next())
	}
}

// Every n and k that may be, each near its bounds beyond them, and the ends of what an int may be.
func TestDistinctAll(t *testing.T) {
	draw := rand.New(rand.NewPCG(11, 1))
	sizes := slices.Clone(oddInts)
	for n := -3; n <= 132; n++ {
		sizes = append(sizes, n)
	}
	for _, n := range sizes {
		for _, k := range sizes {
			l := make([]uint64, draw.IntN(140))
			for i := range l {
				l[i] = draw.Uint64()
			}
			d, m := draws.New(l), &model{list: l}
			if got, want := d.Distinct(n, k), m.distinct(n, k); !slices.Equal(got, want) {
				t.Fatalf("Distinct(%d, %d): %v, not %v", n, k, got, want)
			}
			used := 0
			if n >= 0 && n <= 128 {
				used = max(0, min(n, k))
			}
			checkUsed(t, d, used)
			checkNext(t, d, m.next())
		}
	}
}

// Every way to choose of up to five numbers: each one first, each one last, with all that are taken already between.
func TestDistinctSmall(t *testing.T) {
	for n := range 6 {
		for k := range n + 1 {
			ways := map[[5]int]int{}
			l := make([]uint64, k)
			var walk func(i int)
			walk = func(i int) {
				if i < k {
					for j := range n - i {
						l[i] = uint64(j)
						walk(i + 1)
					}
					return
				}
				got := draws.New(l).Distinct(n, k)
				if want := (&model{list: l}).distinct(n, k); !slices.Equal(got, want) {
					t.Fatalf("of %v, Distinct(%d, %d): %v, not %v", l, n, k, got, want)
				}
				var choice [5]int
				for _, number := range got {
					choice[number] = 1
				}
				ways[choice]++
			}
			walk(0)
			// Each choice of k comes as often as it has orders.
			orders := int(new(big.Int).MulRange(1, int64(k)).Int64())
			if want := int(new(big.Int).Binomial(int64(n), int64(k)).Int64()); len(ways) != want {
				t.Errorf("%d choices of %d of %d, not %d", len(ways), k, n, want)
			}
			for choice, times := range ways {
				if times != orders {
					t.Errorf("%v %d times, not %d", choice, times, orders)
				}
			}
		}
	}
}

// Of the most numbers that may be: each one alone, all of them from the first on, from the last on, and from the middle.
func TestDistinctMost(t *testing.T) {
	all := make([]int, 128)
	for i := range all {
		all[i] = i
	}
	for i := range 128 {
		if got := draws.New([]uint64{uint64(i)}).Distinct(128, 1); !slices.Equal(got, []int{i}) {
			t.Errorf("the draw %d took %v", i, got)
		}
	}
	for k := range 129 {
		first, last, middle := make([]uint64, k), make([]uint64, k), make([]uint64, k)
		for i := range k {
			last[i] = uint64(127 - i)
			middle[i] = uint64((128 - i) / 2)
		}
		if got := draws.New(first).Distinct(128, k); !slices.Equal(got, all[:k]) {
			t.Errorf("from the first on, %d: %v", k, got)
		}
		if got := draws.New(last).Distinct(128, k); !slices.Equal(got, all[128-k:]) {
			t.Errorf("from the last on, %d: %v", k, got)
		}
		// 64, 63, 65, 62, ..: what is taken stands in one piece around the middle.
		if got := draws.New(middle).Distinct(128, k); !slices.Equal(got, all[64-k/2:64-k/2+k]) {
			t.Errorf("from the middle on, %d: %v", k, got)
		}
	}
}

// All calls, one after the other on the same draws, as they come.
func TestMixed(t *testing.T) {
	draw := rand.New(rand.NewPCG(11, 2))
	for range 300 {
		l := make([]uint64, draw.IntN(200))
		for i := range l {
			l[i] = draw.Uint64() >> draw.IntN(64)
		}
		d, m := draws.New(l), &model{list: slices.Clone(l)}
		for range 100 {
			switch draw.IntN(4) {
			case 0:
				if got, want := d.Next(), m.next(); got != want {
					t.Fatalf("Next: %d, not %d", got, want)
				}
			case 1:
				n := draw.IntN(20) - 3
				if got, want := d.Below(n), m.below(n); got != want {
					t.Fatalf("Below(%d): %d, not %d", n, got, want)
				}
			case 2:
				n := oddInts[draw.IntN(len(oddInts))]
				if got, want := d.Below(n), m.below(n); got != want {
					t.Fatalf("Below(%d): %d, not %d", n, got, want)
				}
			case 3:
				n, k := draw.IntN(140)-5, draw.IntN(14)-2
				if got, want := d.Distinct(n, k), m.distinct(n, k); !slices.Equal(got, want) {
					t.Fatalf("Distinct(%d, %d): %v, not %v", n, k, got, want)
				}
			}
			checkUsed(t, d, m.calls)
			checkUsed(t, d, m.calls)
		}
	}
}

// R1: on nil all methods answer zero values, and Distinct nothing.
func TestNil(t *testing.T) {
	var d *draws.Draws
	for range 3 {
		if got := d.Next(); got != 0 {
			t.Errorf("Next: %d", got)
		}
		for _, n := range append([]int{1, 2, 3, 5, 128}, oddInts...) {
			if got := d.Below(n); got != 0 {
				t.Errorf("Below(%d): %d", n, got)
			}
			for _, k := range append([]int{1, 2, 3, 5, 128}, oddInts...) {
				if got := d.Distinct(n, k); len(got) != 0 {
					t.Errorf("Distinct(%d, %d): %v", n, k, got)
				}
			}
		}
		checkUsed(t, d, 0)
	}
}

// New gives draws whatever the list, and such as no other draws share.
func TestNew(t *testing.T) {
	l := []uint64{5, 1, 7}
	for _, list := range [][]uint64{nil, {}, {3}, l, l[:0]} {
		if draws.New(list) == nil {
			t.Errorf("of %v: nil", list)
		}
	}
	a, b := draws.New(l), draws.New(l)
	if a == b || draws.New(nil) == draws.New(nil) {
		t.Error("the same draws twice")
	}
	checkNext(t, a, 5, 1)
	checkNext(t, b, 5)
	checkUsed(t, a, 2)
	checkUsed(t, b, 1)
	a.Distinct(128, 128)
	checkNext(t, b, 1, 7, 0x78DDE6E5FD29F054)
	checkUsed(t, a, 130)
	checkNext(t, draws.New(l), 5, 1, 7)
}

// R4: the list is not changed, nor what lies around it; and what becomes of it later changes no draw.
func TestHandedIn(t *testing.T) {
	all := []uint64{99, 5, 1, 7, 98, 97}
	was := slices.Clone(all)
	d := draws.New(all[1:4])
	d.Below(3)
	d.Distinct(3, 2)
	d.Distinct(128, 128)
	d.Next()
	if !slices.Equal(all, was) {
		t.Fatalf("the list and what lies around it became %v", all)
	}
	d = draws.New(all[1:4])
	none := draws.New(all[1:1])
	checkNext(t, d, 5)
	for i := range all {
		all[i] = 33
	}
	checkNext(t, d, 1, 7, 0x78DDE6E5FD29F054)
	checkNext(t, none, 0x9E3779B97F4A7C15)
}

// R4: what Distinct gives is new memory, and what is done to it, behind its end too, changes no draw and no other answer.
func TestHandedOut(t *testing.T) {
	l := []uint64{2, 0, 1, 2, 0, 1}
	d := draws.New(l)
	a := d.Distinct(5, 3)
	if !slices.Equal(a, []int{0, 2, 3}) {
		t.Fatalf("Distinct: %v", a)
	}
	spoil(a)
	b := d.Distinct(5, 3)
	spoil(a)
	if !slices.Equal(b, []int{0, 2, 3}) {
		t.Errorf("Distinct: %v", b)
	}
	c := d.Distinct(128, 128)
	spoil(b)
	for i, number := range c {
		if number != i {
			t.Fatalf("Distinct(128, 128): %v", c)
		}
	}
	spoil(c)
	if got := d.Distinct(128, 128); got[0] != 0 || got[127] != 127 {
		t.Errorf("Distinct(128, 128): %v", got)
	}
	if !slices.Equal(l, []uint64{2, 0, 1, 2, 0, 1}) {
		t.Errorf("the list became %v", l)
	}
}

// spoil overwrites a list as far as its memory goes.
func spoil(l []int) {
	l = l[:cap(l)]
	for i := range l {
		l[i] = -7
	}
}

// The limit is the one that the tests count by.
func TestLimits(t *testing.T) {
	if api.MaxK != 128 {
		t.Errorf("MaxK %d", api.MaxK)
	}
}

// R1: the draws of a long list are taken soon, one by one.
func TestLong(t *testing.T) {
	start := time.Now()
	l := make([]uint64, 1<<23)
	for i := range l {
		l[i] = uint64(i) << 33
	}
	d := draws.New(l)
	for i := range l {
		if got := d.Next(); got != uint64(i)<<33 {
			t.Fatalf("Next, %d: %d", i, got)
		}
	}
	checkNext(t, d, behind(1<<23+1), behind(1<<23+2))
	checkUsed(t, d, 1<<23+2)
	if took := time.Since(start); took > 30*time.Second {
		t.Errorf("took %v", took)
	}
}
