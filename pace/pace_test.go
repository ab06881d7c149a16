package pace_test

import (
	"math"
	"math/big"
	"math/rand/v2"
	"testing"

	"bucketline/api"
	"bucketline/pace"
)

// The document's limits, by number.
const (
	maxRate = 1000000
	maxCap  = 256
	maxTick = 1 << 20
)

// ints are of every kind: at the document's edges, around them, and such as would be another one in fewer bits, or times another one.
var ints = []int{
	math.MinInt, math.MinInt + 1, -1 << 62, -1 << 44, -1 << 32, -1<<32 + 3, -1 << 31, -maxTick - 1, -maxTick, -maxRate, -1000, -257, -256, -2, -1,
	0, 1, 2, 3, 7, 255, 256, 257, 258, 499, 500, 999, 1000, 1001, 255999, 256000, 256001, maxRate - 1, maxRate, maxRate + 1, maxTick - 1, maxTick, maxTick + 1, maxTick + 3,
	1<<31 - 1, 1 << 31, 1<<32 - 1, 1 << 32, 1<<32 + 1, 1<<32 + 5, 1 << 40, 1 << 44, 1 << 61, 1 << 62, 1<<62 + 1, math.MaxInt / 1000, math.MaxInt/1000 + 1, math.MaxInt - 1, math.MaxInt,
}

// bounded is n, or the bound beyond which it lies.
func bounded(n, least, most int) int {
	switch {
	case n < least:
		return least
	case n > most:
		return most
	}
	return n
}

// exactly is what the chapter says of Milli, by fractions of whole numbers of any size.
func exactly(rate float64) int {
	switch {
	case math.IsNaN(rate), rate <= 0:
		return 0
	case rate >= 1000:
		return maxRate
	}
	p := new(big.Rat).SetFloat64(rate)
	p.Mul(p, big.NewRat(1000, 1))
	return int(new(big.Int).Quo(p.Num(), p.Denom()).Int64())
}

func checkMilli(t *testing.T, rate float64) {
	t.Helper()
	if got, want := pace.Milli(rate), exactly(rate); got != want {
		t.Errorf("Milli(%v) is %d, not %d", rate, got, want)
	}
}

// model is a bucket, told by the chapter's words, of whole numbers of any size.
type model struct {
	milli, most, level *big.Int
}

func modelled(milli, most int) *model {
	full := big.NewInt(int64(1000 * bounded(most, 1, maxCap)))
	return &model{milli: big.NewInt(int64(bounded(milli, 0, maxRate))), most: full, level: full}
}

func (w *model) tick(n int) {
	more := new(big.Int).Mul(big.NewInt(int64(bounded(n, 0, maxTick))), w.milli)
	more.Add(more, w.level)
	if more.Cmp(w.most) > 0 {
		more = w.most
	}
	w.level = more
}

func (w *model) take() bool {
	if w.level.Cmp(big.NewInt(1000)) < 0 {
		return false
	}
	w.level = new(big.Int).Sub(w.level, big.NewInt(1000))
	return true
}

// check holds the level against the model's, twice, as to ask changes nothing.
func check(t *testing.T, name string, b *pace.Bucket, w *model) {
	t.Helper()
	want := int(w.level.Int64())
	if one, two := b.Level(), b.Level(); one != want || two != want {
		t.Errorf("%s: the level is %d and %d, not %d", name, one, two, want)
	}
}

func ticked(t *testing.T, name string, b *pace.Bucket, w *model, n int) {
	t.Helper()
	b.Tick(n)
	w.tick(n)
	check(t, name, b, w)
}

func taken(t *testing.T, name string, b *pace.Bucket, w *model) {
	t.Helper()
	if got, want := b.Take(), w.take(); got != want {
		t.Errorf("%s: Take is %t, not %t", name, got, want)
	}
	check(t, name, b, w)
}

// drain takes all there are, and tells how many.
func drain(b *pace.Bucket) int {
	n := 0
	for b.Take() {
		n++
	}
	return n
}

// at gives a bucket with that level, of the bound most, that gains one thousandth a tick.
func at(t *testing.T, level, most int) *pace.Bucket {
	t.Helper()
	b := pace.New(1, most)
	drain(b)
	b.Tick(level)
	if b.Level() != level {
		t.Fatalf("the level is %d, not %d", b.Level(), level)
	}
	return b
}

// TestExamples are the chapter's.
func TestExamples(t *testing.T) {
	if pace.Milli(0.5) != 500 || pace.Milli(math.Copysign(0, -1)) != 0 {
		t.Errorf("%d, %d", pace.Milli(0.5), pace.Milli(math.Copysign(0, -1)))
	}
	b := pace.New(pace.Milli(0.5), 1)
	if !b.Take() || b.Take() {
		t.Error("one at first")
	}
	b.Tick(1)
	if b.Take() || b.Level() != 500 {
		t.Errorf("one Tick of 500 gives %d", b.Level())
	}
	b.Tick(1)
	if b.Level() != 1000 || !b.Take() || b.Take() || b.Level() != 0 {
		t.Errorf("two Ticks of 500 leave %d", b.Level())
	}
}

// TestMilli is by hand: ordinary rates, and each edge.
func TestMilli(t *testing.T) {
	for _, c := range []struct {
		rate float64
		want int
	}{
		{1, 1000}, {0.5, 500}, {0.25, 250}, {0.125, 125}, {0.0625, 62}, {0.03125, 31}, {2, 2000}, {2.5, 2500}, {7.75, 7750}, {999, 999000}, {999.5, 999500}, {0.001, 1},
		{math.NaN(), 0}, {math.Copysign(math.NaN(), -1), 0}, {math.Inf(1), maxRate}, {math.Inf(-1), 0}, {0, 0}, {math.Copysign(0, -1), 0},
		{-math.SmallestNonzeroFloat64, 0}, {-0.0005, 0}, {-0.001, 0}, {-0.5, 0}, {-1, 0}, {-1000, 0}, {-1001, 0}, {-1e300, 0}, {-math.MaxFloat64, 0},
		{math.SmallestNonzeroFloat64, 0}, {1e-300, 0}, {1e-9, 0}, {0.0005, 0}, {0.0009, 0}, {0.00099999, 0},
		{0.0015, 1}, {0.0019999, 1}, {1.0009, 1000}, {1.0015, 1001}, {1.0019999, 1001}, {123.4567, 123456},
		{999.999, 999999}, {999.9999, 999999}, {math.Nextafter(1000, 0), 999999}, {1000, maxRate}, {math.Nextafter(1000, 1001), maxRate}, {1000.0009, maxRate}, {1000.001, maxRate}, {1001, maxRate}, {1e6, maxRate},
		{1 << 31, maxRate}, {1 << 32, maxRate}, {1<<32 + 1, maxRate}, {1 << 63, maxRate}, {1 << 64, maxRate}, {1e18, maxRate}, {1e300, maxRate}, {math.MaxFloat64 / 1000, maxRate}, {math.MaxFloat64, maxRate},
	} {
		if got := pace.Milli(c.rate); got != c.want {
			t.Errorf("Milli(%v) is %d, not %d", c.rate, got, c.want)
		}
	}
}

// TestMilliNoNumber: of all kinds of what is no number.
func TestMilliNoNumber(t *testing.T) {
	for shift := range 52 {
		for _, sign := range []uint64{0, 1 << 63} {
			if rate := math.Float64frombits(sign | 0x7ff<<52 | 1<<shift); pace.Milli(rate) != 0 {
				t.Errorf("bit %d: %d", shift, pace.Milli(rate))
			}
		}
	}
}

// TestMilliDown (R6): the product is exact; a rate that lies below so many thousandths, be it as little as it may, is not as many, though a product of floats would be.
func TestMilliDown(t *testing.T) {
	for _, c := range []struct {
		rate float64
		want int
	}{
		{0.3, 299}, {0.7, 699}, {0.009, 8}, {0.1, 100}, {0.2, 200}, {0.6, 599}, {math.Nextafter(0.5, 0), 499}, {math.Nextafter(1, 0), 999}, {math.Nextafter(2, 0), 1999}, {math.Nextafter(0.001, 0), 0},
	} {
		if got := pace.Milli(c.rate); got != c.want {
			t.Errorf("Milli(%v) is %d, not %d", c.rate, got, c.want)
		}
		checkMilli(t, c.rate)
	}
}

// TestMilliEach: near each number of thousandths up to 5000, near some up to the greatest, and near each power of 2.
func TestMilliEach(t *testing.T) {
	near := func(rate float64) {
		checkMilli(t, rate)
		checkMilli(t, -rate)
		checkMilli(t, math.Nextafter(rate, 0))
		checkMilli(t, math.Nextafter(rate, 2000))
	}
	for n := 0; n <= maxRate+2000; n++ {
		if n <= 5000 || n%97 == 0 || n > maxRate-2000 {
			near(float64(n) / 1000)
		}
	}
	for e := -1080; e <= 1024; e++ {
		near(math.Ldexp(1, e))
		near(math.Ldexp(1.999999, e))
	}
}

// TestMilliAny: of whatever bits, and of rates between the edges.
func TestMilliAny(t *testing.T) {
	r := rand.New(rand.NewPCG(21, 1))
	for range 20000 {
		checkMilli(t, math.Float64frombits(r.Uint64()))
		checkMilli(t, r.Float64()*1001)
		checkMilli(t, r.Float64()*3)
		checkMilli(t, r.Float64()/100)
	}
}

// TestNew: full at first, by each kind of bound, whatever comes a tick.
func TestNew(t *testing.T) {
	for _, c := range []struct{ most, want int }{
		{math.MinInt, 1000}, {-1 << 32, 1000}, {-256, 1000}, {-1, 1000}, {0, 1000}, {1, 1000}, {2, 2000}, {100, 100000}, {255, 255000},
		{256, 256000}, {257, 256000}, {1000, 256000}, {1 << 32, 256000}, {1<<32 + 1, 256000}, {math.MaxInt/1000 + 1, 256000}, {math.MaxInt, 256000},
	} {
		for _, milli := range ints {
			b := pace.New(milli, c.most)
			if b.Level() != c.want {
				t.Errorf("New(%d, %d): the level is %d, not %d", milli, c.most, b.Level(), c.want)
			}
			if b.Tick(1); b.Level() != c.want {
				t.Errorf("New(%d, %d): a full one has %d behind a tick", milli, c.most, b.Level())
			}
			if n := drain(b); n != c.want/1000 || b.Level() != 0 {
				t.Errorf("New(%d, %d): %d were taken, %d is left", milli, c.most, n, b.Level())
			}
		}
	}
}

// TestRates: how much comes a tick, by each kind of milli, by hand.
func TestRates(t *testing.T) {
	for _, c := range []struct{ milli, one, three int }{
		{math.MinInt, 0, 0}, {-1 << 32, 0, 0}, {-1<<32 + 3, 0, 0}, {-1000, 0, 0}, {-1, 0, 0}, {0, 0, 0}, {1, 1, 3}, {2, 2, 6}, {300, 300, 900}, {999, 999, 2997}, {1000, 1000, 3000},
		{85333, 85333, 255999}, {85334, 85334, 256000}, {255999, 255999, 256000}, {256000, 256000, 256000}, {256001, 256000, 256000},
		{maxRate - 1, 256000, 256000}, {maxRate, 256000, 256000}, {maxRate + 1, 256000, 256000}, {1 << 32, 256000, 256000}, {1 << 62, 256000, 256000}, {1 << 63 / 3, 256000, 256000}, {math.MaxInt, 256000, 256000},
	} {
		one, three := pace.New(c.milli, maxCap), pace.New(c.milli, maxCap)
		drain(one)
		drain(three)
		one.Tick(1)
		three.Tick(3)
		if one.Level() != c.one || three.Level() != c.three {
			t.Errorf("New(%d, 256): %d by one tick, %d by three", c.milli, one.Level(), three.Level())
		}
		if one.Tick(2); one.Level() != c.three {
			t.Errorf("New(%d, 256): %d by one tick and two", c.milli, one.Level())
		}
	}
}

// TestTick: how much n ticks give, by hand.
func TestTick(t *testing.T) {
	for _, c := range []struct{ milli, n, want int }{
		{7, math.MinInt, 0}, {7, -1 << 32, 0}, {7, -1<<32 + 3, 0}, {7, -maxTick, 0}, {7, -1, 0}, {7, 0, 0}, {7, 1, 7}, {7, 2, 14}, {7, 36571, 255997}, {7, 36572, 256000},
		{1, 255999, 255999}, {1, 256000, 256000}, {1, 256001, 256000}, {1, maxTick - 1, 256000}, {1, maxTick, 256000}, {1, maxTick + 1, 256000}, {1, 1 << 32, 256000}, {1, 1<<32 + 1, 256000}, {1, math.MaxInt, 256000},
		{0, 1, 0}, {0, maxTick, 0}, {0, maxTick + 1, 0}, {0, math.MaxInt, 0}, {0, math.MinInt, 0}, {-1, maxTick, 0}, {-1, math.MaxInt, 0}, {-1, math.MinInt, 0}, {math.MinInt, math.MinInt, 0}, {math.MinInt, math.MaxInt, 0}, {math.MinInt, -1, 0},
		{maxRate, 0, 0}, {maxRate, -1, 0}, {maxRate, maxTick - 1, 256000}, {maxRate, maxTick, 256000}, {maxRate, maxTick + 1, 256000}, {maxRate, 1 << 44, 256000}, {maxRate, math.MaxInt, 256000}, {maxRate, math.MinInt, 0},
		{math.MaxInt, math.MaxInt, 256000}, {math.MaxInt, math.MinInt, 0}, {1 << 32, 1 << 32, 256000}, {1 << 62, 4, 256000}, {2, 1 << 63 / 2, 256000},
	} {
		b := pace.New(c.milli, maxCap)
		drain(b)
		if b.Tick(c.n); b.Level() != c.want {
			t.Errorf("New(%d, 256): Tick(%d) gives %d, not %d", c.milli, c.n, b.Level(), c.want)
		}
	}
}

// TestTickFull: the level is never beyond the bound, just at it and one less.
func TestTickFull(t *testing.T) {
	for _, most := range []int{1, 2, 3, 100, 255, 256} {
		full := 1000 * most
		for _, c := range []struct{ level, n, want int }{
			{full - 2, 1, full - 1}, {full - 1, 0, full - 1}, {full - 1, -1, full - 1}, {full - 1, 1, full}, {full - 1, 2, full}, {full - 1, maxTick, full}, {full - 1, math.MaxInt, full},
			{full, 0, full}, {full, -1, full}, {full, 1, full}, {full, maxTick, full}, {full, math.MaxInt, full}, {full, math.MinInt, full},
			{0, full - 1, full - 1}, {0, full, full}, {0, full + 1, full}, {1, full - 2, full - 1}, {1, full - 1, full}, {1, full, full},
		} {
			b := at(t, c.level, most)
			if b.Tick(c.n); b.Level() != c.want {
				t.Errorf("most %d: from %d, Tick(%d) gives %d, not %d", most, c.level, c.n, b.Level(), c.want)
			}
			if n := drain(b); n != c.want/1000 || b.Level() != c.want%1000 {
				t.Errorf("most %d: %d were taken of %d, %d is left", most, n, c.want, b.Level())
			}
		}
	}
}

// TestTickPairs: each kind of milli by each kind of n, from empty and from full.
func TestTickPairs(t *testing.T) {
	for _, milli := range ints {
		for _, n := range ints {
			for _, most := range []int{1, 7, maxCap} {
				b, w := pace.New(milli, most), modelled(milli, most)
				ticked(t, "full", b, w, n)
				for range most + 1 {
					taken(t, "full", b, w)
				}
				ticked(t, "empty", b, w, n)
				taken(t, "empty", b, w)
				ticked(t, "again", b, w, n)
				if t.Failed() {
					t.Fatalf("New(%d, %d), Tick(%d)", milli, most, n)
				}
			}
		}
	}
}

// TestTake: just from 1000 on; what is refused changes nothing.
func TestTake(t *testing.T) {
	for _, c := range []struct {
		level, left int
		want        bool
	}{
		{0, 0, false}, {1, 1, false}, {500, 500, false}, {998, 998, false}, {999, 999, false}, {1000, 0, true}, {1001, 1, true}, {1999, 999, true}, {2000, 1000, true}, {2001, 1001, true}, {255999, 254999, true}, {256000, 255000, true},
	} {
		b := at(t, c.level, maxCap)
		if got := b.Take(); got != c.want || b.Level() != c.left {
			t.Errorf("at %d: Take is %t, and %d is left", c.level, got, b.Level())
		}
	}
	for _, level := range []int{0, 1, 999} {
		b := at(t, level, 2)
		for range 5 {
			if b.Take() || b.Level() != level {
				t.Errorf("at %d, %d is left of what was refused", level, b.Level())
			}
		}
		b.Tick(1000 - level)
		if !b.Take() || b.Level() != 0 || b.Take() {
			t.Errorf("from %d, %d is left", level, b.Level())
		}
	}
}

// TestTakeAll: as many as the bucket holds, and then none, until there are more.
func TestTakeAll(t *testing.T) {
	for most := 1; most <= maxCap; most++ {
		b := pace.New(500, most)
		for i := range most {
			if !b.Take() || b.Level() != 1000*(most-i-1) {
				t.Fatalf("most %d: the level is %d once %d are gone", most, b.Level(), i+1)
			}
		}
		for range 3 {
			if b.Take() || b.Level() != 0 {
				t.Errorf("most %d: one more", most)
			}
		}
		b.Tick(1)
		if b.Take() || b.Level() != 500 {
			t.Errorf("most %d: half a one is none", most)
		}
		b.Tick(1)
		if !b.Take() || b.Take() {
			t.Errorf("most %d: two ticks give one", most)
		}
		b.Tick(4 * most)
		if n := drain(b); n != most {
			t.Errorf("most %d: %d once it is full again", most, n)
		}
	}
}

// TestNoRate: without a rate, what was there at first is all there is.
func TestNoRate(t *testing.T) {
	for _, rate := range []float64{math.NaN(), math.Inf(-1), math.Copysign(0, -1), 0, -1, math.SmallestNonzeroFloat64, 0.0009} {
		b := pace.New(pace.Milli(rate), 2)
		b.Tick(math.MaxInt)
		if n := drain(b); n != 2 {
			t.Errorf("rate %v: %d at first", rate, n)
		}
		b.Tick(maxTick)
		b.Tick(maxTick)
		if b.Take() || b.Level() != 0 {
			t.Errorf("rate %v: %d came", rate, b.Level())
		}
	}
}

// TestNil: a bucket that is none.
func TestNil(t *testing.T) {
	var b *pace.Bucket
	for _, n := range ints {
		b.Tick(n)
		if b.Take() || b.Level() != 0 {
			t.Errorf("Tick(%d): the level is %d", n, b.Level())
		}
	}
}

// TestEachShortList: all lists of up to 7 ticks and takes, by some rates and bounds.
func TestEachShortList(t *testing.T) {
	steps := []int{0, 1, 2, 5} // 0 takes one
	var grow func(milli, most int, l []int)
	grow = func(milli, most int, l []int) {
		b, w := pace.New(milli, most), modelled(milli, most)
		for _, n := range l {
			if n == 0 {
				taken(t, "short", b, w)
			} else {
				ticked(t, "short", b, w, n)
			}
		}
		if t.Failed() {
			t.Fatalf("New(%d, %d): %d", milli, most, l)
		}
		if len(l) < 7 {
			for _, n := range steps {
				grow(milli, most, append(l[:len(l):len(l)], n))
			}
		}
	}
	for _, milli := range []int{0, 333, 999, 1000} {
		for _, most := range []int{1, 2} {
			grow(milli, most, nil)
		}
	}
}

// drawn gives a number of ticks that is mostly one that may be.
func drawn(r *rand.Rand) int {
	if r.IntN(8) == 0 {
		return ints[r.IntN(len(ints))]
	}
	return r.IntN(6)
}

// TestAny: long lists of calls, of which all is told as the chapter has it.
func TestAny(t *testing.T) {
	r := rand.New(rand.NewPCG(21, 2))
	for range 400 {
		milli, most := r.IntN(3000), 1+r.IntN(8)
		if r.IntN(4) == 0 {
			milli = ints[r.IntN(len(ints))]
		}
		if r.IntN(4) == 0 {
			most = ints[r.IntN(len(ints))]
		}
		b, w := pace.New(milli, most), modelled(milli, most)
		check(t, "new", b, w)
		for range 200 {
			if r.IntN(3) == 0 {
				ticked(t, "any", b, w, drawn(r))
			} else {
				taken(t, "any", b, w)
			}
		}
		if t.Failed() {
			t.Fatalf("New(%d, %d)", milli, most)
		}
	}
}

// TestAgain (R5): the same calls on another one give the same, whatever is asked between and whatever is done to others.
func TestAgain(t *testing.T) {
	r := rand.New(rand.NewPCG(21, 3))
	for range 200 {
		milli, most := r.IntN(2000), 1+r.IntN(5)
		one, two, other := pace.New(milli, most), pace.New(milli, most), pace.New(milli+1, most+1)
		for range 100 {
			other.Tick(drawn(r))
			other.Take()
			pace.Milli(r.Float64())
			two.Level()
			n := drawn(r)
			one.Tick(n)
			two.Tick(n)
			if r.IntN(4) != 0 {
				if a, b := one.Take(), two.Take(); a != b {
					t.Fatalf("Take is %t and %t", a, b)
				}
			}
			if one.Level() != two.Level() {
				t.Fatalf("the level is %d and %d", one.Level(), two.Level())
			}
		}
	}
	for _, rate := range []float64{0.3, 0.5, 1.0019, 999.9999} {
		if pace.Milli(rate) != pace.Milli(rate) {
			t.Errorf("Milli(%v) changes", rate)
		}
	}
}

// TestSideBySide: two do not meet, and each keeps its own rate and bound.
func TestSideBySide(t *testing.T) {
	one, ofOne := pace.New(300, 2), modelled(300, 2)
	two, ofTwo := pace.New(700, 3), modelled(700, 3)
	for i := range 30 {
		taken(t, "one", one, ofOne)
		check(t, "two", two, ofTwo)
		if i%3 == 0 {
			ticked(t, "two", two, ofTwo, 2)
			check(t, "one", one, ofOne)
		}
		ticked(t, "one", one, ofOne, i%5)
		check(t, "two", two, ofTwo)
		taken(t, "two", two, ofTwo)
		check(t, "one", one, ofOne)
	}
	one.Tick(maxTick)
	two.Tick(maxTick)
	if one.Level() != 2000 || two.Level() != 3000 {
		t.Errorf("%d and %d", one.Level(), two.Level())
	}
}

// The limits are those that the tests count by.
func TestLimits(t *testing.T) {
	if api.MaxRate != maxRate || api.MaxCap != maxCap || api.MaxTick != maxTick {
		t.Error("other limits")
	}
}
