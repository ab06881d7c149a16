package soliton_test

import (
	"math"
	"math/big"
	"math/rand/v2"
	"slices"
	"testing"
	"time"

	"bucketline/api"
	"bucketline/soliton"
)

// oddInts are numbers at the ends of what an int may be, and near powers that a sum or product could wrap to.
var oddInts = []int{
	math.MinInt, math.MinInt + 1, math.MinInt + 128, -1 << 62, -1 << 44, -1<<32 + 1, -1 << 32, -1<<32 + 5, -1 << 31, -129, -128, -2, -1,
	1 << 31, 1<<31 - 1, 1 << 32, 1<<32 - 1, 1<<32 + 1, 1<<32 + 5, 1<<32 + 128, 1 << 44, 1 << 62, 1<<62 + 1, math.MaxInt - 1, math.MaxInt,
}

// around gives all numbers from low to high, and the odd ones.
func around(low, high int) []int {
	out := slices.Clone(oddInts)
	for n := low; n <= high; n++ {
		out = append(out, n)
	}
	return out
}

// quotient gives the product of all but the last of its numbers, by the last, rounded down.
func quotient(l ...int64) int {
	all := big.NewInt(1)
	for _, n := range l[:len(l)-1] {
		all.Mul(all, big.NewInt(n))
	}
	return int(all.Quo(all, big.NewInt(l[len(l)-1])).Int64())
}

// digits tells how many bits n has: how often it can be halved.
func digits(n int) int64 {
	if n == 0 {
		return 0
	}
	return 1 + digits(n/2)
}

// shares gives what Table has to answer, word by word as the chapter says it.
func shares(k, spread int) []int {
	if k < 1 || k > 128 || spread < 0 || spread > k {
		return nil
	}
	const s = 1048576
	var out []int
	for d := 1; d <= k; d++ {
		share := quotient(s, int64(k))
		if d > 1 {
			share = quotient(s, int64(d)*int64(d-1))
		}
		if spread != 0 {
			m := quotient(int64(k), int64(spread))
			if d < m {
				share += quotient(s, int64(spread), int64(k)*int64(d))
			}
			if d == m {
				share += quotient(s, int64(spread), digits(spread), int64(k))
			}
		}
		if share < 1 {
			share = 1
		}
		out = append(out, share)
	}
	return out
}

func TestTable(t *testing.T) {
	for _, c := range []struct {
		k, spread int
		want      []int
	}{
		{2, 0, []int{524288, 524288}},
		{1, 0, []int{1048576}},
		// m is 1: degree 1 has the one bit's part, S by 1 twice.
		{1, 1, []int{2097152}},
		{3, 0, []int{349525, 524288, 174762}},
		{4, 0, []int{262144, 524288, 174762, 87381}},
		{5, 0, []int{209715, 524288, 174762, 87381, 52428}},
		// A spread of 1: m is k, one bit.
		{2, 1, []int{1048576, 1048576}},
		{3, 1, []int{699050, 699050, 524287}},
		{4, 1, []int{524288, 655360, 262143, 349525}},
		// m is 1 where the spread is k, and where it is more than the half of k.
		{2, 2, []int{2621440, 524288}},
		{3, 2, []int{1747626, 524288, 174762}},
		{3, 3, []int{2446677, 524288, 174762}},
		{4, 3, []int{1835008, 524288, 174762, 87381}},
		{4, 4, []int{3407872, 524288, 174762, 87381}},
		// m is between.
		{4, 2, []int{786432, 1572864, 174762, 87381}},
		{5, 2, []int{629145, 1363148, 174762, 87381, 52428}},
		{6, 2, []int{524287, 699050, 873812, 87381, 52428, 34952}},
		{7, 3, []int{599185, 1423067, 174762, 87381, 52428, 34952, 24966}},
		{8, 4, []int{655360, 2097152, 174762, 87381, 52428, 34952, 24966, 18724}},
		{0, 0, nil}, {-1, 0, nil}, {129, 0, nil}, {0, 1, nil}, {129, 129, nil}, {129, 1, nil},
		{3, 4, nil}, {3, -1, nil}, {1, 2, nil}, {1, -1, nil}, {128, 129, nil}, {128, -1, nil}, {-1, -1, nil}, {-2, -2, nil},
		{math.MaxInt, math.MaxInt, nil}, {math.MinInt, math.MinInt, nil}, {math.MaxInt, 0, nil}, {math.MinInt, 0, nil},
		{1, math.MaxInt, nil}, {1, math.MinInt, nil}, {128, math.MaxInt, nil}, {128, math.MinInt, nil},
		{1<<32 + 2, 0, nil}, {2, 1 << 32, nil}, {-1<<32 + 2, 0, nil}, {2, -1 << 32, nil},
	} {
		if got := soliton.Table(c.k, c.spread); !slices.Equal(got, c.want) {
			t.Errorf("Table(%d, %d): %v, not %v", c.k, c.spread, got, c.want)
		}
	}
}

// Every k and spread that may be, each near its bounds beyond them, and such as could wrap.
func TestTableAll(t *testing.T) {
	tables := 0
	for _, k := range around(-130, 260) {
		for _, spread := range around(-130, 260) {
			got := soliton.Table(k, spread)
			if want := shares(k, spread); !slices.Equal(got, want) {
				t.Fatalf("Table(%d, %d): %v, not %v", k, spread, got, want)
			}
			if len(got) > 0 {
				tables++
			}
		}
	}
	// For each k there are the spreads from 0 to k.
	if want := 128*129/2 + 128; tables != want {
		t.Errorf("%d tables, not %d", tables, want)
	}
}

// The greatest table: every degree below m, at m and above it, of spreads that are a power of two and one less.
func TestTableGreatest(t *testing.T) {
	plain := soliton.Table(128, 0)
	for _, c := range []struct{ spread, m, below, at int }{
		{1, 128, 8192, 8192},
		{2, 64, 16384, 32768},
		{3, 42, 24576, 49152},
		{4, 32, 32768, 98304},
		{7, 18, 57344, 172032},
		{8, 16, 65536, 262144},
		{15, 8, 122880, 491520},
		{16, 8, 131072, 655360},
		{31, 4, 253952, 1269760},
		{32, 4, 262144, 1572864},
		{63, 2, 516096, 3096576},
		{64, 2, 524288, 3670016},
		{65, 1, 0, 3727360},
		{127, 1, 0, 7282688},
		{128, 1, 0, 8388608},
	} {
		got := soliton.Table(128, c.spread)
		if len(got) != 128 || len(plain) != 128 {
			t.Fatalf("%d and %d shares, not 128", len(got), len(plain))
		}
		for d := 1; d <= 128; d++ {
			want := plain[d-1]
			if d < c.m {
				want += c.below / d
			} else if d == c.m {
				want += c.at
			}
			if got[d-1] != want {
				t.Errorf("Table(128, %d), degree %d: %d, not %d", c.spread, d, got[d-1], want)
			}
		}
	}
}

// The shares without a spread, of every degree: those of the first come by k, the others by their degree alone.
func TestTablePlain(t *testing.T) {
	for k := 1; k <= api.MaxK; k++ {
		got := soliton.Table(k, 0)
		if len(got) != k || got[0] != 1048576/k {
			t.Fatalf("Table(%d, 0): %v", k, got)
		}
		for d := 2; d <= k; d++ {
			if got[d-1] != 1048576/(d*(d-1)) {
				t.Errorf("Table(%d, 0), degree %d: %d", k, d, got[d-1])
			}
		}
	}
}

// No share is below 1; and none can come to less, for the least that the quotients give is 64.
func TestTableLeast(t *testing.T) {
	least := math.MaxInt
	for k := 1; k <= api.MaxK; k++ {
		for spread := range k + 1 {
			least = min(least, slices.Min(soliton.Table(k, spread)))
		}
	}
	if least != 64 || soliton.Table(128, 0)[127] != 64 {
		t.Errorf("the least share is %d, not 64", least)
	}
}

// The limit is the one that the tests count by.
func TestLimits(t *testing.T) {
	if api.MaxK != 128 {
		t.Errorf("MaxK %d", api.MaxK)
	}
}

func TestSum(t *testing.T) {
	for _, c := range []struct {
		l    []int
		want int
	}{
		{nil, 0},
		{[]int{}, 0},
		{[]int{0}, 0},
		{[]int{-1}, 0},
		{[]int{1}, 1},
		{[]int{0, 0, 0}, 0},
		{[]int{0, -1}, 0},
		{[]int{-3, -5}, 0},
		{[]int{3, 0, 2}, 5},
		{[]int{3, 0, -5, 2}, 5},
		{[]int{-5, 3}, 3},
		{[]int{3, -5}, 3},
		{[]int{-1, 0, 1}, 1},
		{[]int{1, -1}, 1},
		{[]int{math.MinInt}, 0},
		{[]int{math.MinInt, math.MinInt, math.MinInt}, 0},
		{[]int{math.MinInt, 7, math.MinInt}, 7},
		{[]int{1<<62 - 1}, 1<<62 - 1},
		{[]int{1 << 61, 1<<61 - 1}, 1<<62 - 1},
		{[]int{1 << 61, math.MinInt, 0, 1<<61 - 2, -1, 1}, 1<<62 - 1},
		{[]int{1 << 31, 1 << 31, 1}, 1<<32 + 1},
		{[]int{1 << 32, 1 << 32}, 1 << 33},
		{slices.Repeat([]int{1 << 54}, 255), 255 << 54},
	} {
		if got := soliton.Sum(c.l); got != c.want {
			t.Errorf("Sum(%v): %d, not %d", c.l, got, c.want)
		}
	}
}

func TestPick(t *testing.T) {
	for _, c := range []struct {
		l    []int
		draw uint64
		want int
	}{
		{[]int{3, 0, 2}, 8, 3},
		{[]int{3, 0, 2}, 0, 1},
		{[]int{3, 0, 2}, 2, 1},
		{[]int{3, 0, 2}, 3, 3},
		{[]int{3, 0, 2}, 4, 3},
		{[]int{3, 0, 2}, 5, 1},
		{[]int{3, 0, 2}, 9, 3},
		{[]int{3, 0, 2}, 10, 1},
		{[]int{3, 0, -5, 2}, 3, 4},
		{[]int{-5, 0, 1, -1}, 0, 3},
		{[]int{-5, 0, 1, -1}, 7, 3},
		{[]int{1}, 0, 1},
		{[]int{1}, 1, 1},
		{[]int{0, 0, 1}, 0, 3},
		{[]int{1, 0, 0}, 0, 1},
		{nil, 0, 0},
		{nil, 1, 0},
		{nil, math.MaxUint64, 0},
		{[]int{}, 0, 0},
		{[]int{}, math.MaxUint64, 0},
		{[]int{0}, 0, 0},
		{[]int{0}, 3, 0},
		{[]int{-1}, 0, 0},
		{[]int{0, -1}, 3, 0},
		{[]int{-1, -1}, math.MaxUint64, 0},
		{[]int{math.MinInt, math.MinInt}, 0, 0},
		{[]int{math.MinInt, 7, math.MinInt}, 6, 2},
		{[]int{2, math.MinInt, 1}, 2, 3},
		// The greatest draw leaves 0 modulo 3 and 5, 1 modulo 7, and ones alone modulo a power of two.
		{[]int{3, 0, -5, 2}, math.MaxUint64, 1},
		{[]int{1, 1, 1}, math.MaxUint64, 1},
		{[]int{1, 1, 5}, math.MaxUint64, 2},
		{[]int{1, 1, 2}, math.MaxUint64, 3},
		{[]int{1 << 61, 1<<61 - 1, 1}, 1<<62 - 1, 3},
		// Draws that would be below 0 as an int: 2^63 leaves 2 modulo 3 and 3 modulo 5.
		{[]int{1, 1, 1}, 1 << 63, 3},
		{[]int{3, 1, 1}, 1 << 63, 2},
		{[]int{3, 1, 1}, 1<<63 + 1, 3},
		{[]int{3, 1, 1}, 1<<63 + 2, 1},
		// Draws of which the lowest 32 bits say another thing.
		{[]int{1, 1, 1}, 1 << 32, 2},
		{[]int{1 << 32, 1}, 1 << 32, 2},
		{[]int{1 << 32, 1}, 1<<32 - 1, 1},
		{[]int{1 << 32, 1}, 1<<32 + 1, 1},
		// A great sum, at each share's first and last number.
		{[]int{1 << 61, 1<<61 - 1}, 0, 1},
		{[]int{1 << 61, 1<<61 - 1}, 1<<61 - 1, 1},
		{[]int{1 << 61, 1<<61 - 1}, 1 << 61, 2},
		{[]int{1 << 61, 1<<61 - 1}, 1<<62 - 2, 2},
		{[]int{1 << 61, 1<<61 - 1}, 1<<62 - 1, 1},
		{[]int{1 << 61, 1<<61 - 1}, 1 << 63, 1},
		{[]int{2, 1<<62 - 3}, math.MaxUint64, 2},
		{[]int{4, 1<<62 - 5}, math.MaxUint64, 1},
		{[]int{3, 1<<62 - 4}, math.MaxUint64, 2},
	} {
		if got := soliton.Pick(c.l, c.draw); got != c.want {
			t.Errorf("Pick(%v, %d): %d, not %d", c.l, c.draw, got, c.want)
		}
	}
}

// picked gives what Pick has to answer, by numbers that can't wrap.
func picked(l []int, draw uint64) int {
	sum := new(big.Int)
	for _, share := range l {
		if share > 0 {
			sum.Add(sum, big.NewInt(int64(share)))
		}
	}
	if sum.Sign() == 0 {
		return 0
	}
	x := new(big.Int).SetUint64(draw)
	x.Mod(x, sum)
	upto := new(big.Int)
	for i, share := range l {
		if share > 0 {
			upto.Add(upto, big.NewInt(int64(share)))
		}
		if upto.Cmp(x) > 0 {
			return i + 1
		}
	}
	return 0
}

// checkPick fails, unless Sum and Pick of each draw that stands at an edge answer as they have to.
func checkPick(t *testing.T, l []int, draws ...uint64) {
	t.Helper()
	sum := uint64(0)
	draws = append(draws, 0, 1, 1<<32-1, 1<<32, 1<<63-1, 1<<63, math.MaxUint64-1, math.MaxUint64)
	for _, share := range l {
		if share > 0 {
			draws = append(draws, sum, sum+uint64(share)-1)
			sum += uint64(share)
		}
	}
	if got := soliton.Sum(l); got != int(sum) {
		t.Fatalf("Sum(%v): %d, not %d", l, got, sum)
	}
	for _, draw := range slices.Concat(draws, []uint64{sum, sum + 1, 2 * sum, 2*sum + 1}) {
		for _, n := range []uint64{draw, draw + sum} {
			if got, want := soliton.Pick(l, n), picked(l, n); got != want {
				t.Fatalf("Pick(%v, %d): %d, not %d", l, n, got, want)
			}
		}
	}
}

// Every list of up to four shares from -2 to 3, with every draw up to beyond its sum, held against the degrees laid out as often as their shares say.
func TestPickSmall(t *testing.T) {
	var l []int
	var walk func()
	walk = func() {
		var laid []int
		for i, share := range l {
			for range share {
				laid = append(laid, i+1)
			}
		}
		if soliton.Sum(l) != len(laid) {
			t.Fatalf("Sum(%v): %d, not %d", l, soliton.Sum(l), len(laid))
		}
		for draw := range uint64(2*len(laid) + 2) {
			want := 0
			if len(laid) > 0 {
				want = laid[draw%uint64(len(laid))]
			}
			if got := soliton.Pick(l, draw); got != want {
				t.Fatalf("Pick(%v, %d): %d, not %d", l, draw, got, want)
			}
		}
		if len(l) == 4 {
			return
		}
		for share := -2; share <= 3; share++ {
			l = append(l, share)
			walk()
			l = l[:len(l)-1]
		}
	}
	walk()
}

// Lists of shares small, great, 0 and below it, whose sum is below 2^62.
func TestPickMade(t *testing.T) {
	draw := rand.New(rand.NewPCG(10, 1))
	for range 2000 {
		left := int64(1)<<62 - 1
		var l []int
		for range draw.IntN(1 + []int{2, 10, 200}[draw.IntN(3)]) {
			share := int64(0)
			switch draw.IntN(5) {
			case 0:
				share = -draw.Int64()
			case 1:
				share = draw.Int64N(4)
			case 2:
				share = draw.Int64N(1 << 33)
			case 3:
				share = draw.Int64N(left + 1)
			}
			share = min(share, left)
			left -= max(0, share)
			l = append(l, int(share))
		}
		if draw.IntN(3) == 0 {
			l = append(l, int(left))
		}
		checkPick(t, l, draw.Uint64(), draw.Uint64(), draw.Uint64())
	}
}

// Of tables: each degree's first and last number, and that a degree is picked as often as its share says.
func TestPickTable(t *testing.T) {
	for k := 1; k <= api.MaxK; k++ {
		for _, spread := range []int{0, 1, k / 2, k} {
			checkPick(t, soliton.Table(k, spread))
		}
	}
	l := soliton.Table(7, 3)
	got := make([]int, len(l))
	for draw := range soliton.Sum(l) {
		got[soliton.Pick(l, uint64(draw))-1]++
	}
	if !slices.Equal(got, l) {
		t.Errorf("the degrees were picked %v times, not %v", got, l)
	}
}

// R4: a table that is changed changes no other.
func TestHandedOut(t *testing.T) {
	for _, c := range [][2]int{{1, 0}, {1, 1}, {5, 0}, {5, 2}, {128, 0}, {128, 64}} {
		a, b := soliton.Table(c[0], c[1]), soliton.Table(c[0], c[1])
		a = a[:cap(a)]
		for i := range a {
			a[i] = -7
		}
		want := shares(c[0], c[1])
		if !slices.Equal(b, want) || !slices.Equal(soliton.Table(c[0], c[1]), want) {
			t.Errorf("Table(%d, %d) changed with another", c[0], c[1])
		}
	}
}

// R4: what is handed in is not changed, not even behind a list's end.
func TestHandedIn(t *testing.T) {
	all := []int{9, 3, 0, -5, 2, 8, 7}
	for draw := range uint64(12) {
		soliton.Sum(all[1:5])
		soliton.Pick(all[1:5], draw)
		soliton.Sum(all[2:4])
		soliton.Pick(all[2:4], draw)
	}
	if !slices.Equal(all, []int{9, 3, 0, -5, 2, 8, 7}) {
		t.Errorf("the shares and what lies around them became %v", all)
	}
}

// R5: the same is answered again, whatever was asked between.
func TestAgain(t *testing.T) {
	l := []int{3, 0, 2}
	for range 3 {
		soliton.Table(128, 128)
		soliton.Table(129, 0)
		soliton.Pick([]int{1, 1}, 1)
		soliton.Pick(nil, 1)
		if !slices.Equal(soliton.Table(2, 0), []int{524288, 524288}) || soliton.Sum(l) != 5 || soliton.Pick(l, 8) != 3 {
			t.Errorf("another answer: %v %d %d", soliton.Table(2, 0), soliton.Sum(l), soliton.Pick(l, 8))
		}
	}
	// Nothing is kept of a list: it may have other shares the next time.
	l[0] = 0
	if soliton.Sum(l) != 2 || soliton.Pick(l, 8) != 3 {
		t.Errorf("Sum(%v): %d, Pick: %d", l, soliton.Sum(l), soliton.Pick(l, 8))
	}
}

// R1: beyond the sums that are promised, no call panics, a sum that wraps to 0 among them, and Pick tells a degree or 0.
func TestBeyond(t *testing.T) {
	for _, l := range [][]int{
		{1 << 62},
		{math.MaxInt},
		{1 << 62, 1 << 62},
		{math.MaxInt, 1},
		{math.MaxInt, math.MaxInt},
		{math.MaxInt, math.MaxInt, 1},
		{math.MaxInt, math.MaxInt, 2},
		{math.MaxInt, math.MaxInt, 3},
		{1 << 62, 1 << 62, 1 << 62, 1 << 62},
		{1 << 62, math.MinInt, 1 << 62, 1 << 62, 1 << 62, 5},
		slices.Repeat([]int{math.MaxInt}, 1000),
	} {
		soliton.Sum(l)
		for _, draw := range []uint64{0, 1, 1 << 62, 1<<63 - 1, 1 << 63, math.MaxUint64 - 1, math.MaxUint64} {
			if got := soliton.Pick(l, draw); got < 0 || got > len(l) {
				t.Errorf("Pick(%v, %d): %d", l, draw, got)
			}
		}
	}
}

// R1: of long lists all calls end soon.
func TestLong(t *testing.T) {
	start := time.Now()
	l := make([]int, 1<<24)
	if soliton.Sum(l) != 0 || soliton.Pick(l, 1) != 0 {
		t.Errorf("Sum %d, Pick %d", soliton.Sum(l), soliton.Pick(l, 1))
	}
	l[len(l)-1] = 1
	if soliton.Sum(l) != 1 || soliton.Pick(l, 1) != 1<<24 {
		t.Errorf("Sum %d, Pick %d", soliton.Sum(l), soliton.Pick(l, 1))
	}
	for i := range l {
		l[i] = 1 << 37
	}
	if soliton.Sum(l) != 1<<61 || soliton.Pick(l, 1<<61-1) != 1<<24 || soliton.Pick(l, 1<<60) != 1<<23+1 {
		t.Errorf("Sum %d, Pick %d and %d", soliton.Sum(l), soliton.Pick(l, 1<<61-1), soliton.Pick(l, 1<<60))
	}
	if took := time.Since(start); took > 30*time.Second {
		t.Errorf("took %v", took)
	}
}
