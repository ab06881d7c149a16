package nums_test

import (
	"encoding/binary"
	"encoding/hex"
	"fmt"
	"math"
	"math/big"
	"math/rand/v2"
	"slices"
	"strings"
	"testing"
	"time"
	"unsafe"

	"bucketline/api"
	"bucketline/nums"
	"bucketline/words"
)

// widths are all that numbers may have.
var widths = []int{1, 2, 4}

// wrong are widths that numbers have not.
var wrong = []int{
	0, 3, 5, 6, 7, 8, 9, 16, 32, 64, 255, 256, 257, 258, 260, 1<<32 + 1, 1<<32 + 2, 1<<32 + 4,
	-1, -2, -3, -4, -8, 1 << 61, 1<<62 + 4, math.MaxInt, math.MinInt, math.MinInt + 1, math.MinInt + 2, math.MinInt + 4,
}

// plain writes n modulo 256 to the width in digits and reads these: it shares no step with a shift of bits.
func plain(t *testing.T, n, width int) string {
	t.Helper()
	size := new(big.Int).Exp(big.NewInt(256), big.NewInt(int64(width)), nil)
	rest := new(big.Int).Mod(big.NewInt(int64(n)), size) // never below 0
	return unhex(t, fmt.Sprintf("%0*s", 2*width, rest.Text(16)))
}

func unhex(t *testing.T, digits string) string {
	t.Helper()
	out, err := hex.DecodeString(digits)
	if err != nil {
		t.Fatal(err)
	}
	return string(out)
}

// plainVec does so for a row.
func plainVec(t *testing.T, v []uint64) string {
	t.Helper()
	var digits strings.Builder
	for _, w := range v {
		fmt.Fprintf(&digits, "%016x", w)
	}
	return unhex(t, digits.String())
}

// made gives n bytes, the same ones at each run.
func made(draw *rand.Rand, n int) string {
	out := make([]byte, n)
	for i := range out {
		out[i] = byte(draw.Uint32())
	}
	return string(out)
}

// madeRow gives a row of k blocks, the same one at each run.
func madeRow(draw *rand.Rand, k int) []uint64 {
	v := make([]uint64, words.Size(k))
	for i := range k {
		v = words.Set(v, i, draw.Uint32()&1 == 1)
	}
	return v
}

// some gives numbers around all powers of 2, on both sides of 0, and others.
func some() []int {
	out := []int{0, math.MaxInt, math.MinInt, math.MinInt + 1}
	for shift := range 63 {
		for _, by := range []int{-1, 0, 1} {
			out = append(out, 1<<shift+by, -(1<<shift)+by)
		}
	}
	draw := rand.New(rand.NewPCG(6, 1))
	for range 500 {
		out = append(out, int(draw.Uint64())>>draw.IntN(64))
	}
	return out
}

func TestPut(t *testing.T) {
	for _, c := range []struct {
		n, width int
		want     string
	}{
		{258, 2, "\x01\x02"},
		{0, 1, "\x00"},
		{0, 2, "\x00\x00"},
		{0, 4, "\x00\x00\x00\x00"},
		{1, 1, "\x01"},
		{1, 2, "\x00\x01"},
		{1, 4, "\x00\x00\x00\x01"},
		{'a', 1, "a"},
		{128, 1, "\x80"},
		{255, 1, "\xff"},
		{255, 2, "\x00\xff"},
		{256, 2, "\x01\x00"},
		{256, 4, "\x00\x00\x01\x00"},
		{1<<16 - 1, 2, "\xff\xff"},
		{1<<16 - 1, 4, "\x00\x00\xff\xff"},
		{0x01020304, 4, "\x01\x02\x03\x04"},
		{0xfffefdfc, 4, "\xff\xfe\xfd\xfc"},
		{1 << 31, 4, "\x80\x00\x00\x00"},
		{1<<32 - 1, 4, "\xff\xff\xff\xff"},
		// More bits than the width has: the lowest ones.
		{256, 1, "\x00"},
		{257, 1, "\x01"},
		{0x0102, 1, "\x02"},
		{1 << 16, 2, "\x00\x00"},
		{0x010203, 2, "\x02\x03"},
		{1 << 32, 4, "\x00\x00\x00\x00"},
		{0x0102030405, 4, "\x02\x03\x04\x05"},
		{0x0102030405060708, 1, "\x08"},
		{0x0102030405060708, 2, "\x07\x08"},
		{0x0102030405060708, 4, "\x05\x06\x07\x08"},
		{math.MaxInt, 4, "\xff\xff\xff\xff"},
		// Below 0: the lowest bits of that, too.
		{-1, 1, "\xff"},
		{-1, 2, "\xff\xff"},
		{-1, 4, "\xff\xff\xff\xff"},
		{-2, 1, "\xfe"},
		{-128, 1, "\x80"},
		{-129, 1, "\x7f"},
		{-256, 1, "\x00"},
		{-256, 2, "\xff\x00"},
		{-257, 2, "\xfe\xff"},
		{-1 << 31, 4, "\x80\x00\x00\x00"},
		{-1 << 32, 4, "\x00\x00\x00\x00"},
		{math.MinInt, 4, "\x00\x00\x00\x00"},
		{math.MinInt + 1, 4, "\x00\x00\x00\x01"},
	} {
		if got := nums.Put(c.n, c.width); got != c.want {
			t.Errorf("Put(%d, %d): %q, not %q", c.n, c.width, got, c.want)
		}
	}
}

func TestPutMade(t *testing.T) {
	for _, n := range some() {
		for _, width := range widths {
			if got, want := nums.Put(n, width), plain(t, n, width); got != want {
				t.Errorf("Put(%d, %d): %q, not %q", n, width, got, want)
			}
		}
	}
}

// All numbers that two bytes hold, each of them in its own way.
func TestPutAll(t *testing.T) {
	texts := map[string]int{}
	for n := range 1 << 16 {
		s := nums.Put(n, 2)
		if want := string([]byte{byte(n / 256), byte(n % 256)}); s != want {
			t.Fatalf("Put(%d, 2): %q, not %q", n, s, want)
		}
		texts[s] = n
	}
	if len(texts) != 1<<16 {
		t.Errorf("%d numbers have %d texts", 1<<16, len(texts))
	}
}

func TestPutWrong(t *testing.T) {
	for _, width := range wrong {
		for _, n := range []int{0, 1, -1, 258, math.MaxInt, math.MinInt} {
			if got := nums.Put(n, width); got != "" {
				t.Errorf("Put(%d, %d): %q, not nothing", n, width, got)
			}
		}
	}
	// No width but the three, near them.
	for width := -300; width <= 300; width++ {
		want := 0
		if slices.Contains(widths, width) {
			want = width
		}
		if got := nums.Put(-1, width); len(got) != want {
			t.Errorf("Put(-1, %d): %q, not %d bytes", width, got, want)
		}
	}
}

func TestGet(t *testing.T) {
	for _, c := range []struct {
		s     string
		width int
		want  int
		err   api.Errno
	}{
		{"\x01\x02\x03", 2, 258, api.OK},
		{"\x00", 1, 0, api.OK},
		{"\x00\x00", 2, 0, api.OK},
		{"\x00\x00\x00\x00", 4, 0, api.OK},
		{"\x01", 1, 1, api.OK},
		{"a", 1, 97, api.OK},
		{"\x80", 1, 128, api.OK},
		{"\xff", 1, 255, api.OK},
		{"\x01\x00", 2, 256, api.OK},
		{"\x00\xff", 2, 255, api.OK},
		{"\xff\x00", 2, 255 * 256, api.OK},
		{"\xff\xff", 2, 1<<16 - 1, api.OK},
		{"\x01\x02\x03\x04", 4, 0x01020304, api.OK},
		// Never below 0, whatever the highest bit is.
		{"\x80\x00", 2, 1 << 15, api.OK},
		{"\x80\x00\x00\x00", 4, 1 << 31, api.OK},
		{"\xff\xff\xff\xff", 4, 1<<32 - 1, api.OK},
		{"\xff\xfe\xfd\xfc", 4, 0xfffefdfc, api.OK},
		// What stands behind is not read.
		{"\x01\x02\x03\x04\x05", 1, 1, api.OK},
		{"\x01\x02\x03\x04\x05", 2, 258, api.OK},
		{"\x01\x02\x03\x04\x05", 4, 0x01020304, api.OK},
		{"\x00\x00\x00\x00\xff", 4, 0, api.OK},
		{"abc", 1, 97, api.OK},
		// Bytes, not runes.
		{"\u00e4", 1, 0xc3, api.OK},
		{"\u00e4", 2, 0xc3a4, api.OK},
		{"\u20ac", 2, 0xe282, api.OK},
		{"\u20ac", 4, 0, api.ErrSize},
		{"\U0001f4a7", 4, 0xf09f92a7, api.OK},
		// Too short, whatever the bytes are.
		{"", 1, 0, api.ErrSize},
		{"", 2, 0, api.ErrSize},
		{"", 4, 0, api.ErrSize},
		{"\x00", 2, 0, api.ErrSize},
		{"\xff", 2, 0, api.ErrSize},
		{"\xff", 4, 0, api.ErrSize},
		{"\x01\x02", 4, 0, api.ErrSize},
		{"\x01\x02\x03", 4, 0, api.ErrSize},
		// A width that is none, though there are bytes enough, or too few: ErrArg is the least.
		{"\x01\x02\x03\x04\x05\x06\x07\x08", 3, 0, api.ErrArg},
		{"\x01\x02\x03\x04\x05\x06\x07\x08", 8, 0, api.ErrArg},
		{"\x01\x02\x03\x04\x05\x06\x07\x08", 0, 0, api.ErrArg},
		{"\x01\x02\x03\x04\x05\x06\x07\x08", -1, 0, api.ErrArg},
		{"abc", 3, 0, api.ErrArg},
		{"ab", 3, 0, api.ErrArg},
		{"", 8, 0, api.ErrArg},
		{"", 0, 0, api.ErrArg},
		{"", -1, 0, api.ErrArg},
	} {
		if got, err := nums.Get(c.s, c.width); got != c.want || err != c.err {
			t.Errorf("Get(%q, %d): %d %d, not %d %d", c.s, c.width, got, err, c.want, c.err)
		}
	}
}

func TestGetWrong(t *testing.T) {
	for _, s := range []string{"", "a", "ab", "abc", "abcd", "abcdefgh", strings.Repeat("a", 300)} {
		for _, width := range wrong {
			if got, err := nums.Get(s, width); got != 0 || err != api.ErrArg {
				t.Errorf("Get(%q, %d): %d %d, not ErrArg", s, width, got, err)
			}
		}
	}
}

// Every length of text and every width near the edges.
func TestGetLengths(t *testing.T) {
	s := "\xf1\xf2\xf3\xf4\xf5\xf6\xf7\xf8\xf9"
	for n := range len(s) + 1 {
		for width := -10; width <= 20; width++ {
			want := api.OK
			if !slices.Contains(widths, width) {
				want = api.ErrArg
			} else if n < width {
				want = api.ErrSize
			}
			number := 0
			for i := 0; want == api.OK && i < width; i++ {
				number = number*256 + int(s[i])
			}
			if got, err := nums.Get(s[:n], width); got != number || err != want {
				t.Errorf("Get(%q, %d): %d %d, not %d %d", s[:n], width, got, err, number, want)
			}
		}
	}
}

// What was put is got: the number, if it fits, and what the width leaves of it, if not.
func TestGetPut(t *testing.T) {
	for _, n := range some() {
		for _, width := range widths {
			want := int(uint64(n) % (1 << (8 * width)))
			for _, behind := range []string{"", "\x00", "\xff", "bucketline"} {
				if got, err := nums.Get(nums.Put(n, width)+behind, width); got != want || err != api.OK {
					t.Errorf("Get(Put(%d, %d) and %q): %d %d, not %d", n, width, behind, got, err, want)
				}
			}
		}
	}
}

// What was got is put: the bytes that were read.
func TestPutGet(t *testing.T) {
	draw := rand.New(rand.NewPCG(6, 2))
	for range 2000 {
		s := made(draw, 4+draw.IntN(3))
		for _, width := range widths {
			n, err := nums.Get(s, width)
			if got := nums.Put(n, width); got != s[:width] || err != api.OK {
				t.Errorf("Put(Get(%q, %d)): %q %d", s, width, got, err)
			}
		}
		if n, _ := nums.Get(s, 2); n != int(binary.BigEndian.Uint16([]byte(s))) {
			t.Errorf("Get(%q, 2): %d", s, n)
		}
		if n, _ := nums.Get(s, 4); n != int(binary.BigEndian.Uint32([]byte(s))) {
			t.Errorf("Get(%q, 4): %d", s, n)
		}
	}
}

func TestPutVec(t *testing.T) {
	for _, c := range []struct {
		v    []uint64
		want string
	}{
		{nil, ""},
		{[]uint64{}, ""},
		{[]uint64{0}, "\x00\x00\x00\x00\x00\x00\x00\x00"},
		{[]uint64{1}, "\x00\x00\x00\x00\x00\x00\x00\x01"},
		{[]uint64{258}, "\x00\x00\x00\x00\x00\x00\x01\x02"},
		{[]uint64{0x0102030405060708}, "\x01\x02\x03\x04\x05\x06\x07\x08"},
		{[]uint64{0xfffefdfcfbfaf9f8}, "\xff\xfe\xfd\xfc\xfb\xfa\xf9\xf8"},
		{[]uint64{1 << 63}, "\x80\x00\x00\x00\x00\x00\x00\x00"},
		{[]uint64{1 << 32}, "\x00\x00\x00\x01\x00\x00\x00\x00"},
		{[]uint64{math.MaxUint64}, "\xff\xff\xff\xff\xff\xff\xff\xff"},
		{[]uint64{5, 1}, "\x00\x00\x00\x00\x00\x00\x00\x05\x00\x00\x00\x00\x00\x00\x00\x01"},
		// Words of 0 stand there too, wherever they are.
		{[]uint64{0, 0}, strings.Repeat("\x00", 16)},
		{[]uint64{5, 0}, "\x00\x00\x00\x00\x00\x00\x00\x05\x00\x00\x00\x00\x00\x00\x00\x00"},
		{[]uint64{0, 5}, "\x00\x00\x00\x00\x00\x00\x00\x00\x00\x00\x00\x00\x00\x00\x00\x05"},
		// More words than a row of MaxK blocks has.
		{[]uint64{1, 2, 3}, "\x00\x00\x00\x00\x00\x00\x00\x01\x00\x00\x00\x00\x00\x00\x00\x02\x00\x00\x00\x00\x00\x00\x00\x03"},
		{make([]uint64, 9), strings.Repeat("\x00", 72)},
	} {
		if got := nums.PutVec(c.v); got != c.want {
			t.Errorf("PutVec(%x): %q, not %q", c.v, got, c.want)
		}
	}
}

func TestPutVecMade(t *testing.T) {
	draw := rand.New(rand.NewPCG(6, 3))
	for n := range 200 {
		v := make([]uint64, n%20)
		for i := range v {
			v[i] = draw.Uint64() >> draw.IntN(64)
		}
		if got, want := nums.PutVec(v), plainVec(t, v); got != want {
			t.Errorf("PutVec(%x): %q, not %q", v, got, want)
		}
	}
	// Each bit of two words alone.
	for i := range 128 {
		v := words.Unit(128, i)
		if got, want := nums.PutVec(v), plainVec(t, v); got != want {
			t.Errorf("PutVec(%x): %q, not %q", v, got, want)
		}
	}
}

// checkVec fails, unless GetVec answers just that.
func checkVec(t *testing.T, s string, k int, want []uint64, err api.Errno) {
	t.Helper()
	got, e := nums.GetVec(s, k)
	if e != err || !slices.Equal(got, want) {
		t.Errorf("GetVec(%q, %d): %x %d, not %x %d", s, k, got, e, want, err)
	}
}

func TestGetVec(t *testing.T) {
	zero, full := strings.Repeat("\x00", 8), strings.Repeat("\xff", 8)
	one, two := zero[:7]+"\x01", zero[:7]+"\x02"
	for _, c := range []struct {
		s    string
		k    int
		want []uint64
		err  api.Errno
	}{
		{"\x00\x00\x00\x00\x00\x00\x00\x05\x00\x00\x00\x00\x00\x00\x00\x01", 65, []uint64{5, 1}, api.OK},
		{"\x01\x02\x03\x04\x05\x06\x07\x08", 64, []uint64{0x0102030405060708}, api.OK},
		{"\x01\x02\x03\x04\x05\x06\x07\x08\xf1\xf2\xf3\xf4\xf5\xf6\xf7\xf8", 128, []uint64{0x0102030405060708, 0xf1f2f3f4f5f6f7f8}, api.OK},
		// Rows of 0 are rows; as many words as k says, not fewer.
		{zero, 1, []uint64{0}, api.OK},
		{zero, 64, []uint64{0}, api.OK},
		{zero + zero, 65, []uint64{0, 0}, api.OK},
		{one + zero, 128, []uint64{1, 0}, api.OK},
		// Full ones.
		{one, 1, []uint64{1}, api.OK},
		{zero[:7] + "\x03", 2, []uint64{3}, api.OK},
		{"\x7f" + full[1:], 63, []uint64{1<<63 - 1}, api.OK},
		{full, 64, []uint64{math.MaxUint64}, api.OK},
		{full + one, 65, []uint64{math.MaxUint64, 1}, api.OK},
		{full + "\x7f" + full[1:], 127, []uint64{math.MaxUint64, 1<<63 - 1}, api.OK},
		{full + full, 128, []uint64{math.MaxUint64, math.MaxUint64}, api.OK},
		// What stands behind is not read.
		{one + "x", 1, []uint64{1}, api.OK},
		{one + full, 64, []uint64{1}, api.OK},
		{full + one + full, 65, []uint64{math.MaxUint64, 1}, api.OK},
		{full + full + full, 128, []uint64{math.MaxUint64, math.MaxUint64}, api.OK},
		// A bit from k on.
		{two, 1, nil, api.ErrSyntax},
		{zero[:7] + "\x03", 1, nil, api.ErrSyntax},
		{zero[:7] + "\x04", 2, nil, api.ErrSyntax},
		{"\x80" + zero[1:], 1, nil, api.ErrSyntax},
		{"\x80" + zero[1:], 63, nil, api.ErrSyntax},
		{full, 63, nil, api.ErrSyntax},
		{zero + two, 65, nil, api.ErrSyntax},
		{zero + "\x80" + zero[1:], 65, nil, api.ErrSyntax},
		{zero + "\x80" + zero[1:], 127, nil, api.ErrSyntax},
		{full + full, 127, nil, api.ErrSyntax},
		{two + zero, 1, nil, api.ErrSyntax},
		// The highest byte first: it has the word's bits from 56 on.
		{"\x01" + zero[1:], 8, nil, api.ErrSyntax},
		{"\x01" + zero[1:], 56, nil, api.ErrSyntax},
		{"\x01" + zero[1:], 57, []uint64{1 << 56}, api.OK},
		// Too short: what is there doesn't matter, not even a bit from k on.
		{"", 1, nil, api.ErrSize},
		{"", 64, nil, api.ErrSize},
		{"", 65, nil, api.ErrSize},
		{"", 128, nil, api.ErrSize},
		{zero[:7], 1, nil, api.ErrSize},
		{full[:7], 1, nil, api.ErrSize},
		{full[:7], 64, nil, api.ErrSize},
		{zero, 65, nil, api.ErrSize},
		{zero + zero[:7], 65, nil, api.ErrSize},
		{full + full[:7], 65, nil, api.ErrSize},
		{full + full[:7], 128, nil, api.ErrSize},
		// A k out of bounds, whatever the text is.
		{"", 0, nil, api.ErrArg},
		{"", -1, nil, api.ErrArg},
		{"", 129, nil, api.ErrArg},
		{zero, 0, nil, api.ErrArg},
		{full, -1, nil, api.ErrArg},
		{full + full, 129, nil, api.ErrArg},
		{zero + zero + zero, 129, nil, api.ErrArg},
		{zero + zero + zero, 192, nil, api.ErrArg},
	} {
		checkVec(t, c.s, c.k, c.want, c.err)
	}
}

func TestGetVecWrong(t *testing.T) {
	for _, s := range []string{"", "a", strings.Repeat("\x00", 8), strings.Repeat("\xff", 16), strings.Repeat("\x00", 200)} {
		for _, k := range []int{
			0, -1, -2, -63, -64, -65, -127, -128, api.MaxK + 1, api.MaxK + 2, 191, 192, 193, 256, 1 << 20,
			1<<32 + 1, 1<<32 + 64, 1 << 61, 1<<62 + 1, math.MaxInt, math.MaxInt - 63, math.MinInt, math.MinInt + 1, math.MinInt + 64,
		} {
			checkVec(t, s, k, nil, api.ErrArg)
		}
	}
}

// Every k, every length of text near the edges.
func TestGetVecLengths(t *testing.T) {
	for k := -3; k <= api.MaxK+3; k++ {
		for n := range 30 {
			s := strings.Repeat("\x00", n)
			size := (k + 63) / 64
			switch {
			case k < 1 || k > api.MaxK:
				checkVec(t, s, k, nil, api.ErrArg)
			case n < 8*size:
				checkVec(t, s, k, nil, api.ErrSize)
			default:
				checkVec(t, s, k, make([]uint64, size), api.OK)
			}
		}
	}
}

// Every k and every bit of its words: read below k, refused from k on.
func TestGetVecBits(t *testing.T) {
	for k := 1; k <= api.MaxK; k++ {
		size := (k + 63) / 64
		for i := range 64 * size {
			v := make([]uint64, size)
			v[i/64] = 1 << (i % 64)
			if i < k {
				checkVec(t, plainVec(t, v), k, v, api.OK)
			} else {
				checkVec(t, plainVec(t, v), k, nil, api.ErrSyntax)
			}
		}
	}
}

// What was put is got, with whatever behind it, and what was got is put.
func TestGetVecPut(t *testing.T) {
	draw := rand.New(rand.NewPCG(6, 4))
	for k := 1; k <= api.MaxK; k++ {
		for range 10 {
			v := madeRow(draw, k)
			s := nums.PutVec(v)
			for _, behind := range []string{"", "\x00", "\xff", "bucketline", s} {
				checkVec(t, s+behind, k, v, api.OK)
			}
			got, err := nums.GetVec(s+made(draw, draw.IntN(20)), k)
			if err != api.OK || nums.PutVec(got) != s {
				t.Errorf("PutVec(GetVec(%q, %d)): %q %d", s, k, nums.PutVec(got), err)
			}
		}
	}
}

// Made texts, most of which are no rows.
func TestGetVecMade(t *testing.T) {
	draw := rand.New(rand.NewPCG(6, 5))
	for range 5000 {
		s := made(draw, draw.IntN(25))
		k := 1 + draw.IntN(api.MaxK)
		size := (k + 63) / 64
		if len(s) < 8*size {
			checkVec(t, s, k, nil, api.ErrSize)
			continue
		}
		// In half of the texts the last word's highest bytes are made 0, so that these are rows.
		bytes := []byte(s)
		if draw.Uint32()&1 == 1 {
			for i := range (64*size - k + 7) / 8 {
				bytes[8*(size-1)+i] = 0
			}
		}
		v := make([]uint64, size)
		for i := range v {
			v[i] = binary.BigEndian.Uint64(bytes[8*i:])
		}
		if new(big.Int).SetUint64(v[size-1]).BitLen() <= k-64*(size-1) {
			checkVec(t, string(bytes), k, v, api.OK)
		} else {
			checkVec(t, string(bytes), k, nil, api.ErrSyntax)
		}
	}
}

// shares tells whether two texts have a byte of memory in common.
func shares(a, b string) bool {
	if a == "" || b == "" {
		return false
	}
	from, to := uintptr(unsafe.Pointer(unsafe.StringData(a))), uintptr(unsafe.Pointer(unsafe.StringData(b)))
	return from < to+uintptr(len(b)) && to < from+uintptr(len(a))
}

// R4: what is handed out is new memory, were it one byte.
func TestHandedOut(t *testing.T) {
	var texts []string
	for range 2 {
		for _, width := range widths {
			texts = append(texts, nums.Put(0, width), nums.Put(258, width))
		}
		texts = append(texts, nums.PutVec([]uint64{0}), nums.PutVec([]uint64{5, 1}))
	}
	for i, a := range texts {
		for _, b := range texts[:i] {
			if shares(a, b) {
				t.Errorf("%q and %q share memory", a, b)
			}
		}
	}
	s := nums.PutVec([]uint64{5, 1})
	first, _ := nums.GetVec(s, 65)
	other, _ := nums.GetVec(s, 65)
	for i := range first {
		first[i] = 7
	}
	if !slices.Equal(other, []uint64{5, 1}) {
		t.Errorf("the other row became %d", other)
	}
	checkVec(t, s, 65, []uint64{5, 1}, api.OK)
}

// R4: what is handed in is not changed, not even behind a list's end, and not kept.
func TestHandedIn(t *testing.T) {
	all := []uint64{9, 5, 1, 8}
	v := all[1:3]
	s := nums.PutVec(v)
	if !slices.Equal(all, []uint64{9, 5, 1, 8}) {
		t.Errorf("the row and what lies around it became %d", all)
	}
	clear(all)
	if want := plainVec(t, []uint64{5, 1}); s != want {
		t.Errorf("what was put became %q", s)
	}
	bytes := []byte(s + "x")
	text := unsafe.String(&bytes[0], len(bytes))
	row, err := nums.GetVec(text, 65)
	n, e := nums.Get(text[7:], 2)
	if string(bytes) != s+"x" {
		t.Errorf("%q became %q", s+"x", bytes)
	}
	for i := range bytes {
		bytes[i] = '-'
	}
	if !slices.Equal(row, []uint64{5, 1}) || err != api.OK || n != 5*256 || e != api.OK {
		t.Errorf("what was got became %d %d, %d %d", row, err, n, e)
	}
}

// R5: the same is answered again, whatever was asked between.
func TestAgain(t *testing.T) {
	numbers := some()
	first := make([]string, len(numbers))
	for i, n := range numbers {
		first[i] = nums.Put(n, 4)
	}
	for i := len(numbers) - 1; i >= 0; i-- {
		nums.Put(-1, 3)
		nums.PutVec([]uint64{math.MaxUint64})
		nums.Get("a", 4)
		nums.GetVec("a", 1)
		if got := nums.Put(numbers[i], 4); got != first[i] {
			t.Errorf("Put(%d, 4): %q, and %q ahead", numbers[i], got, first[i])
		}
	}
}

// R1: a long row ends soon, and so does what is read of a long text.
func TestLong(t *testing.T) {
	start := time.Now()
	v := make([]uint64, 1<<21)
	for i := range v {
		v[i] = uint64(i) * 0x9e3779b97f4a7c15
	}
	s := nums.PutVec(v)
	if len(s) != 8*len(v) {
		t.Fatalf("%d words have %d bytes", len(v), len(s))
	}
	for i, w := range v {
		if got := binary.BigEndian.Uint64([]byte(s[8*i : 8*i+8])); got != w {
			t.Fatalf("word %d: %#x, not %#x", i, got, w)
		}
	}
	for range 100000 {
		if row, err := nums.GetVec(s, api.MaxK); !slices.Equal(row, v[:2]) || err != api.OK {
			t.Fatalf("%x %d", row, err)
		}
		if n, err := nums.Get(s[8:], 4); n != 0x9e3779b9 || err != api.OK {
			t.Fatalf("%x %d", n, err)
		}
	}
	if took := time.Since(start); took > 30*time.Second {
		t.Errorf("took %v", took)
	}
}
