package split_test

import (
	"math"
	"math/big"
	"math/rand/v2"
	"slices"
	"strings"
	"testing"
	"time"
	"unsafe"

	"bucketline/api"
	"bucketline/split"
)

// oddInts are numbers at the ends of what an int may be, and near powers that a sum or product could wrap to.
var oddInts = []int{
	math.MinInt, math.MinInt + 1, math.MinInt + 63, math.MinInt + 64, -1 << 62, -1 << 32, -1<<32 + 5, -1 << 31, -8192, -129, -65, -64, -2, -1,
	1 << 31, 1<<31 - 1, 1 << 32, 1<<32 - 1, 1<<32 + 1, 1<<32 + 5, 1<<32 + 64, 1 << 56, 1 << 58, 1 << 62, 1<<62 + 1,
	math.MaxInt - 64, math.MaxInt - 63, math.MaxInt - 62, math.MaxInt - 1, math.MaxInt,
}

// around gives all numbers from low to high, and the odd ones.
func around(low, high int) []int {
	out := slices.Clone(oddInts)
	for n := low; n <= high; n++ {
		out = append(out, n)
	}
	return out
}

// planned gives what Plan has to answer, by numbers that can't wrap.
func planned(n, size int) (int, api.Errno) {
	if n < 0 || size < 1 || size > 64 {
		return 0, api.ErrArg
	}
	// The blocks are the least number of them that hold n bytes.
	most := new(big.Int).Mul(big.NewInt(128), big.NewInt(int64(size)))
	if big.NewInt(int64(n)).Cmp(most) > 0 {
		return 0, api.ErrSize
	}
	k := 1
	for k*size < n {
		k++
	}
	return k, api.OK
}

// cut gives what Split has to answer where there is no error: s and zeros enough, by pieces.
func cut(s string, k, size int) []string {
	all := (s + strings.Repeat("\x00", k*size))[:k*size]
	var out []string
	for i := range k {
		out = append(out, all[i*size:(i+1)*size])
	}
	return out
}

// made gives n bytes, the same ones at each run; bytes 0 are among them, at the end too.
func made(draw *rand.Rand, n int) string {
	out := make([]byte, n)
	for i := range out {
		out[i] = byte(draw.IntN(6)*51 + draw.IntN(2))
	}
	return string(out)
}

func TestPlan(t *testing.T) {
	for _, c := range []struct {
		n, size, k int
		err        api.Errno
	}{
		{3, 2, 2, api.OK},
		{2, 1, 2, api.OK},
		{0, 1, 1, api.OK},
		{0, 64, 1, api.OK},
		{1, 1, 1, api.OK},
		{1, 64, 1, api.OK},
		{63, 64, 1, api.OK},
		{64, 64, 1, api.OK},
		{65, 64, 2, api.OK},
		{127, 1, 127, api.OK},
		{128, 1, 128, api.OK},
		{129, 1, 0, api.ErrSize},
		{254, 2, 127, api.OK},
		{255, 2, 128, api.OK},
		{256, 2, 128, api.OK},
		{257, 2, 0, api.ErrSize},
		{127*64 + 1, 64, 128, api.OK},
		{8191, 64, 128, api.OK},
		{8192, 64, 128, api.OK},
		{8193, 64, 0, api.ErrSize},
		{-1, 1, 0, api.ErrArg},
		{-1, 64, 0, api.ErrArg},
		{-64, 64, 0, api.ErrArg},
		{math.MinInt, 64, 0, api.ErrArg},
		{0, 0, 0, api.ErrArg},
		{0, 65, 0, api.ErrArg},
		{0, -1, 0, api.ErrArg},
		{1, 0, 0, api.ErrArg},
		{1, 65, 0, api.ErrArg},
		{1, -1, 0, api.ErrArg},
		{math.MaxInt, 1, 0, api.ErrSize},
		{math.MaxInt, 2, 0, api.ErrSize},
		{math.MaxInt, 63, 0, api.ErrSize},
		{math.MaxInt, 64, 0, api.ErrSize},
	} {
		if k, err := split.Plan(c.n, c.size); k != c.k || err != c.err {
			t.Errorf("Plan(%d, %d): %d %d, not %d %d", c.n, c.size, k, err, c.k, c.err)
		}
	}
}

// Where there are too many blocks too, a wrong argument is told: its number is less.
func TestPlanTwoErrors(t *testing.T) {
	for _, n := range []int{129, 65 * 128, 65*128 + 1, 65 * 1000, 1 << 40, math.MaxInt, math.MinInt, -1} {
		for _, size := range []int{0, -1, -64, 65, 66, 128, 1 << 32, 1<<32 + 1, math.MinInt, math.MaxInt} {
			if k, err := split.Plan(n, size); k != 0 || err != api.ErrArg {
				t.Errorf("Plan(%d, %d): %d %d, not ErrArg", n, size, k, err)
			}
		}
	}
	for size := 1; size <= api.MaxBlock; size++ {
		if k, err := split.Plan(math.MinInt, size); k != 0 || err != api.ErrArg {
			t.Errorf("Plan(%d, %d): %d %d, not ErrArg", math.MinInt, size, k, err)
		}
	}
}

// Every size near its bounds, with every n that could be told, and such as could wrap.
func TestPlanAll(t *testing.T) {
	seen := map[api.Errno]int{}
	lengths := around(-70, 8400)
	for _, size := range around(-70, 140) {
		for _, n := range lengths {
			k, err := split.Plan(n, size)
			if wantK, want := planned(n, size); k != wantK || err != want {
				t.Fatalf("Plan(%d, %d): %d %d, not %d %d", n, size, k, err, wantK, want)
			}
			seen[err]++
		}
	}
	for _, err := range []api.Errno{api.OK, api.ErrArg, api.ErrSize} {
		if seen[err] < 1000 {
			t.Errorf("error %d was answered only %d times", err, seen[err])
		}
	}
}

// The limits are those that the tests count by.
func TestLimits(t *testing.T) {
	if api.MaxK != 128 || api.MaxBlock != 64 {
		t.Errorf("MaxK %d, MaxBlock %d", api.MaxK, api.MaxBlock)
	}
}

func TestSplit(t *testing.T) {
	for _, c := range []struct {
		s    string
		size int
		want []string
	}{
		{"abc", 2, []string{"ab", "c\x00"}},
		{"ab", 1, []string{"a", "b"}},
		{"", 1, []string{"\x00"}},
		{"", 3, []string{"\x00\x00\x00"}},
		{"", 64, []string{strings.Repeat("\x00", 64)}},
		{"a", 1, []string{"a"}},
		{"a", 4, []string{"a\x00\x00\x00"}},
		{"abc", 3, []string{"abc"}},
		{"abcde", 3, []string{"abc", "de\x00"}},
		{"abcdef", 3, []string{"abc", "def"}},
		{"abcdefg", 3, []string{"abc", "def", "g\x00\x00"}},
		{"\x00", 2, []string{"\x00\x00"}},
		{"a\x00\x00", 2, []string{"a\x00", "\x00\x00"}},
		{"\x00\xff\x80", 2, []string{"\x00\xff", "\x80\x00"}},
		// Bytes are cut, not runes.
		{"\u00e4\u00f6", 3, []string{"\xc3\xa4\xc3", "\xb6\x00\x00"}},
		{"\U0001f600", 1, []string{"\xf0", "\x9f", "\x98", "\x80"}},
		{strings.Repeat("x", 64), 64, []string{strings.Repeat("x", 64)}},
		{strings.Repeat("x", 65), 64, []string{strings.Repeat("x", 64), "x" + strings.Repeat("\x00", 63)}},
	} {
		if got, err := split.Split(c.s, c.size); !slices.Equal(got, c.want) || err != api.OK {
			t.Errorf("Split(%q, %d): %q %d, not %q", c.s, c.size, got, err, c.want)
		}
	}
}

// checkSplit fails, unless Split, and Join of what it gives, answer as they have to.
func checkSplit(t *testing.T, s string, size int) {
	t.Helper()
	k, want := planned(len(s), size)
	got, err := split.Split(s, size)
	if err != want {
		t.Fatalf("Split of %d bytes, %d: %d, not %d", len(s), size, err, want)
	}
	if err != api.OK {
		if len(got) > 0 {
			t.Fatalf("Split of %d bytes, %d: %q beside %d", len(s), size, got, err)
		}
		return
	}
	if !slices.Equal(got, cut(s, k, size)) {
		t.Fatalf("Split(%q, %d): %q", s, size, got)
	}
	if again, err := split.Join(got, len(s)); again != s || err != api.OK {
		t.Fatalf("Join of Split(%q, %d): %q %d", s, size, again, err)
	}
}

// Of every size, texts that fill their last block, have one byte less and one byte more; up to as many blocks as may be, and one more.
func TestSplitEdges(t *testing.T) {
	draw := rand.New(rand.NewPCG(9, 1))
	for size := 1; size <= api.MaxBlock; size++ {
		for k := range api.MaxK + 2 {
			for _, n := range []int{k*size - 1, k * size, k*size + 1} {
				if n >= 0 {
					checkSplit(t, made(draw, n), size)
				}
			}
		}
	}
}

// Every length of a few sizes: each text alike in bytes 0, in bytes 255, and in neither.
func TestSplitLengths(t *testing.T) {
	draw := rand.New(rand.NewPCG(9, 2))
	for _, size := range []int{1, 2, 3, 7, 8, 63, 64} {
		for n := range 300 {
			checkSplit(t, made(draw, n), size)
			checkSplit(t, strings.Repeat("\x00", n), size)
			checkSplit(t, strings.Repeat("\xff", n), size)
		}
	}
}

// Plan's error, where Split has one, with no block beside it.
func TestSplitWrong(t *testing.T) {
	for _, size := range around(-70, 140) {
		for _, n := range []int{0, 1, 2, 64, 65, 128, 129, 8192, 8193, 65 * 128, 65*128 + 1, 20000} {
			s := strings.Repeat("x", n)
			k, want := split.Plan(n, size)
			got, err := split.Split(s, size)
			if err != want || len(got) != k {
				t.Errorf("Split of %d bytes, %d: %d blocks and %d, not %d and %d", n, size, len(got), err, k, want)
			}
		}
	}
	for _, c := range []struct {
		n, size int
		want    api.Errno
	}{
		{0, 0, api.ErrArg}, {0, 65, api.ErrArg}, {0, -1, api.ErrArg}, {3, 0, api.ErrArg}, {3, 65, api.ErrArg}, {3, -2, api.ErrArg},
		{129, 1, api.ErrSize}, {8193, 64, api.ErrSize}, {1 << 20, 64, api.ErrSize},
		{1 << 20, 0, api.ErrArg}, {1 << 20, 65, api.ErrArg}, {1 << 20, -1, api.ErrArg}, {65*128 + 1, 65, api.ErrArg},
	} {
		if got, err := split.Split(strings.Repeat("x", c.n), c.size); len(got) > 0 || err != c.want {
			t.Errorf("Split of %d bytes, %d: %d blocks and %d, not %d", c.n, c.size, len(got), err, c.want)
		}
	}
}

func TestJoin(t *testing.T) {
	for _, c := range []struct {
		blocks []string
		n      int
		want   string
		err    api.Errno
	}{
		{[]string{"ab", "c\x00"}, 3, "abc", api.OK},
		{[]string{"ab", "c\x00"}, 4, "abc\x00", api.OK},
		{[]string{"ab", "c\x00"}, 2, "ab", api.OK},
		{[]string{"ab", "c\x00"}, 1, "a", api.OK},
		{[]string{"ab", "c\x00"}, 0, "", api.OK},
		{[]string{"ab", "c\x00"}, 5, "", api.ErrArg},
		{[]string{"ab", "c\x00"}, -1, "", api.ErrArg},
		{nil, 0, "", api.OK},
		{[]string{}, 0, "", api.OK},
		{nil, 1, "", api.ErrArg},
		{[]string{}, 1, "", api.ErrArg},
		{nil, -1, "", api.ErrArg},
		{nil, math.MaxInt, "", api.ErrArg},
		{nil, math.MinInt, "", api.ErrArg},
		{[]string{""}, 0, "", api.OK},
		{[]string{""}, 1, "", api.ErrArg},
		{[]string{"", ""}, 0, "", api.OK},
		{[]string{"", "", ""}, 1, "", api.ErrArg},
		{[]string{"", "a", "", "bc", ""}, 3, "abc", api.OK},
		{[]string{"", "a", "", "bc", ""}, 2, "ab", api.OK},
		{[]string{"", "a", "", "bc", ""}, 1, "a", api.OK},
		{[]string{"", "a", "", "bc", ""}, 4, "", api.ErrArg},
		{[]string{"abcde", "f", "gh"}, 6, "abcdef", api.OK},
		{[]string{"abcde", "f", "gh"}, 3, "abc", api.OK},
		{[]string{"f", "abcde"}, 6, "fabcde", api.OK},
		{[]string{"same", "same"}, 8, "samesame", api.OK},
		{[]string{"\x00", "\x00\x00"}, 2, "\x00\x00", api.OK},
		{[]string{"\xff\x80", "\x00"}, 3, "\xff\x80\x00", api.OK},
		{[]string{"\xc3", "\xa4"}, 1, "\xc3", api.OK},
		{[]string{"abc"}, math.MaxInt, "", api.ErrArg},
		{[]string{"abc"}, math.MinInt, "", api.ErrArg},
		{[]string{"abc"}, 1<<32 + 2, "", api.ErrArg},
		{[]string{"abc"}, -1<<32 + 2, "", api.ErrArg},
	} {
		if got, err := split.Join(c.blocks, c.n); got != c.want || err != c.err {
			t.Errorf("Join(%q, %d): %q %d, not %q %d", c.blocks, c.n, got, err, c.want, c.err)
		}
	}
}

// Blocks of unlike lengths, more of them than MaxK and longer than MaxBlock too, at every n near their bytes' edges.
func TestJoinMade(t *testing.T) {
	draw := rand.New(rand.NewPCG(9, 3))
	for range 300 {
		var blocks []string
		for range draw.IntN(1 + []int{3, 20, 200}[draw.IntN(3)]) {
			blocks = append(blocks, made(draw, draw.IntN(1+[]int{1, 5, 100}[draw.IntN(3)])))
		}
		all := strings.Join(blocks, "")
		for _, n := range around(-3, len(all)+3) {
			want, wantErr := "", api.ErrArg
			if n >= 0 && n <= len(all) {
				want, wantErr = all[:n], api.OK
			}
			if got, err := split.Join(blocks, n); got != want || err != wantErr {
				t.Fatalf("Join(%q, %d): %q %d, not %q %d", blocks, n, got, err, want, wantErr)
			}
		}
	}
}

// What was split and is joined with its zeros, or with fewer bytes, begins as it was.
func TestJoinSplit(t *testing.T) {
	draw := rand.New(rand.NewPCG(9, 4))
	for range 500 {
		size := 1 + draw.IntN(api.MaxBlock)
		s := made(draw, draw.IntN(api.MaxK*size+1))
		blocks, err := split.Split(s, size)
		if err != api.OK {
			t.Fatalf("Split of %d bytes, %d: %d", len(s), size, err)
		}
		whole := len(blocks) * size
		filled := s + strings.Repeat("\x00", whole-len(s))
		for _, n := range []int{0, len(s) / 2, len(s), whole} {
			if got, err := split.Join(blocks, n); got != filled[:n] || err != api.OK {
				t.Errorf("Join of %d blocks of %d, %d: %q %d, not %q", len(blocks), size, n, got, err, filled[:n])
			}
		}
		if got, err := split.Join(blocks, whole+1); got != "" || err != api.ErrArg {
			t.Errorf("Join of %d blocks of %d, %d: %q %d, not ErrArg", len(blocks), size, whole+1, got, err)
		}
	}
}

// shares tells whether two texts have a byte of memory in common.
func shares(a, b string) bool {
	if a == "" || b == "" {
		return false
	}
	from, to := uintptr(unsafe.Pointer(unsafe.StringData(a))), uintptr(unsafe.Pointer(unsafe.StringData(b)))
	return from < to+uintptr(len(b)) && to < from+uintptr(len(a))
}

// checkApart fails, if two of the texts share memory.
func checkApart(t *testing.T, texts []string) {
	t.Helper()
	for i, a := range texts {
		for _, b := range texts[:i] {
			if shares(a, b) {
				t.Errorf("%q and %q share memory", a, b)
			}
		}
	}
}

// R4: what is handed out is new memory, were it one byte, one block or bytes 0 alone.
func TestHandedOut(t *testing.T) {
	for _, c := range []struct {
		s    string
		size int
	}{
		{"", 1}, {"", 2}, {"", 64}, {"a", 1}, {"aa", 1}, {"\x00\x00", 1}, {"a", 2}, {"ab", 2}, {"abc", 2}, {"abcdef", 2},
		{strings.Repeat("\x00", 300), 64}, {strings.Repeat("ab", 96), 64}, {strings.Repeat("x", 128), 1},
	} {
		texts := []string{c.s}
		var lists [][]string
		for range 2 {
			blocks, err := split.Split(c.s, c.size)
			if err != api.OK {
				t.Fatalf("Split(%q, %d): %d", c.s, c.size, err)
			}
			texts, lists = append(texts, blocks...), append(lists, blocks)
			for range 2 {
				s, _ := split.Join(blocks, len(c.s))
				whole, _ := split.Join(blocks, len(blocks)*c.size)
				texts = append(texts, s, whole)
			}
		}
		checkApart(t, texts)
		want := slices.Clone(lists[1])
		clear(lists[0][:cap(lists[0])])
		if !slices.Equal(lists[1], want) {
			t.Errorf("Split(%q, %d) became %q", c.s, c.size, lists[1])
		}
	}
	// One block alone, and one beside empty ones, is joined to a text of its own as well.
	for _, blocks := range [][]string{{"abc"}, {"", "abc", ""}, {"a"}, {"abc", "d"}} {
		for n := 1; n <= 3 && n <= len(strings.Join(blocks, "")); n++ {
			a, _ := split.Join(blocks, n)
			b, _ := split.Join(blocks, n)
			checkApart(t, append(slices.Clone(blocks), a, b))
		}
	}
}

// R4: what is handed in is not changed, not even behind a list's end, and not kept.
func TestHandedIn(t *testing.T) {
	text := []byte("-abcde-")
	blocks, err := split.Split(unsafe.String(&text[1], 5), 2)
	if string(text) != "-abcde-" {
		t.Errorf("the text and what lies around it became %q", text)
	}
	clear(text)
	if !slices.Equal(blocks, []string{"ab", "cd", "e\x00"}) || err != api.OK {
		t.Errorf("what was split became %q %d", blocks, err)
	}
	first := []byte("abc")
	all := []string{"before", unsafe.String(&first[0], 3), "de", "behind", "last"}
	for n := -1; n <= 6; n++ {
		split.Join(all[1:3], n)
	}
	joined, err := split.Join(all[1:3], 4)
	if !slices.Equal(all, []string{"before", "abc", "de", "behind", "last"}) {
		t.Errorf("the blocks and what lies around them became %q", all)
	}
	clear(first)
	clear(all)
	if joined != "abcd" || err != api.OK {
		t.Errorf("what was joined became %q %d", joined, err)
	}
}

// R5: the same is answered again, whatever was asked between.
func TestAgain(t *testing.T) {
	for range 3 {
		split.Split("xyz", 1)
		split.Split(strings.Repeat("x", 200), 1)
		split.Join([]string{"xyz"}, 4)
		split.Plan(-1, 0)
		checkSplit(t, "abc", 2)
		if k, err := split.Plan(3, 2); k != 2 || err != api.OK {
			t.Errorf("Plan(3, 2): %d %d", k, err)
		}
	}
}

// R1: of long texts and lists all calls end soon.
func TestLong(t *testing.T) {
	start := time.Now()
	long := strings.Repeat("d", 1<<25)
	if got, err := split.Split(long, 64); len(got) > 0 || err != api.ErrSize {
		t.Errorf("Split: %d blocks and %d", len(got), err)
	}
	if got, err := split.Split(long, 65); len(got) > 0 || err != api.ErrArg {
		t.Errorf("Split: %d blocks and %d", len(got), err)
	}
	if got, err := split.Join([]string{long, "ab"}, len(long)+1); len(got) != len(long)+1 || got[len(long):] != "a" || err != api.OK {
		t.Errorf("Join: %d bytes and %d", len(got), err)
	}
	if got, err := split.Join([]string{long, "ab"}, len(long)+3); got != "" || err != api.ErrArg {
		t.Errorf("Join: %d bytes and %d", len(got), err)
	}
	many := slices.Repeat([]string{"", "ab"}, 1<<20)
	if got, err := split.Join(many, 1<<21); got != strings.Repeat("ab", 1<<20) || err != api.OK {
		t.Errorf("Join: %d bytes and %d", len(got), err)
	}
	if got, err := split.Join(many, 1<<21+1); got != "" || err != api.ErrArg {
		t.Errorf("Join: %d bytes and %d", len(got), err)
	}
	if got, err := split.Join(many, 3); got != "aba" || err != api.OK {
		t.Errorf("Join: %q and %d", got, err)
	}
	if took := time.Since(start); took > 30*time.Second {
		t.Errorf("took %v", took)
	}
}
