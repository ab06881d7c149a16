package crc_test

import (
	"hash/crc32"
	"math/rand/v2"
	"slices"
	"strings"
	"testing"
	"time"
	"unsafe"

	"bucketline/api"
	"bucketline/crc"
)

// plain divides polynomials: the bits of s, each byte's lowest first, the first 32 of them turned, by the
// polynomial whose bits 0xEDB88320 has, read from its other end. So it shares no step with the chapter's rule.
func plain(s string) uint32 {
	var bits []bool
	for i := range len(s) {
		for j := range 8 {
			bits = append(bits, s[i]>>j&1 == 1)
		}
	}
	bits = append(bits, make([]bool, 32)...)
	for i := range 32 {
		bits[i] = !bits[i]
	}
	for i := range len(bits) - 32 {
		for j := 0; bits[i] && j < 32; j++ {
			bits[i+1+j] = bits[i+1+j] != (0x04C11DB7>>(31-j)&1 == 1)
		}
	}
	var sum uint32
	for j, bit := range bits[len(bits)-32:] {
		if !bit {
			sum |= 1 << j
		}
	}
	return sum
}

// made gives n bytes, the same ones at each run.
func made(draw *rand.Rand, n int) string {
	out := make([]byte, n)
	for i := range out {
		out[i] = byte(draw.Uint32())
	}
	return string(out)
}

// some gives texts of all lengths up to 80, and a few that are longer.
func some() []string {
	draw := rand.New(rand.NewPCG(5, 1))
	var out []string
	for n := range 81 {
		out = append(out, made(draw, n), strings.Repeat("\x00", n), strings.Repeat("\xff", n))
	}
	return append(out, made(draw, 255), made(draw, 256), made(draw, 257), made(draw, 1000))
}

// all gives every byte from 0 to 255, once.
func all() string {
	out := make([]byte, 256)
	for i := range out {
		out[i] = byte(i)
	}
	return string(out)
}

func TestSum(t *testing.T) {
	for _, c := range []struct {
		s    string
		want uint32
	}{
		{"123456789", 0xCBF43926},
		{"", 0},
		{"a", 0xE8B7BE43},
		{"b", 0x71BEEFF9},
		{"abc", 0x352441C2},
		{"The quick brown fox jumps over the lazy dog", 0x414FA339},
		// Bytes, not runes: a byte of 128 or more is one step, and need not be a rune.
		{"\x80", 0x3FBA6CAD},
		{"\xff", 0xFF000000},
		{"\xff\xff", 0xFFFF0000},
		{"\xff\xff\xff\xff", 0xFFFFFFFF},
		// Bytes of 0 count, wherever they stand.
		{"\x00", 0xD202EF8D},
		{"\x00\x00", 0x41D912FF},
		{"\x00\x00\x00\x00", 0x2144DF1C},
		{strings.Repeat("\x00", 32), 0x190A55AD},
		{strings.Repeat("\xff", 32), 0xFF6CAB0B},
		{all(), 0x29058C73},
	} {
		if got := crc.Sum(c.s); got != c.want {
			t.Errorf("Sum(%q): %#x, not %#x", c.s, got, c.want)
		}
	}
}

// The order of bytes, and how many there are, count.
func TestSumOrder(t *testing.T) {
	for _, c := range [][2]string{
		{"ab", "ba"}, {"a", "aa"}, {"a", "a\x00"}, {"a", "\x00a"}, {"", "\x00"}, {"", "\xff\xff\xff\xff\x00"},
		{"\u00e4", "\xe4"}, {"\xe4", "\xef\xbf\xbd"}, {"\xe4", "\xfc"}, {"a", "A"},
	} {
		if crc.Sum(c[0]) == crc.Sum(c[1]) {
			t.Errorf("Sum of %q and of %q: both %#x", c[0], c[1], crc.Sum(c[0]))
		}
	}
}

// Every byte, alone, ahead of another one, and behind one.
func TestSumBytes(t *testing.T) {
	for b := range 256 {
		one := string([]byte{byte(b)})
		for _, s := range []string{one, one + "a", "a" + one, one + one, one + "\x00", "\xff" + one} {
			if got, want := crc.Sum(s), plain(s); got != want {
				t.Errorf("Sum(%q): %#x, not %#x", s, got, want)
			}
		}
	}
}

func TestSumMade(t *testing.T) {
	for _, s := range some() {
		got := crc.Sum(s)
		if want := plain(s); got != want {
			t.Errorf("Sum(%q): %#x, not %#x", s, got, want)
		}
		if want := crc32.ChecksumIEEE([]byte(s)); got != want {
			t.Errorf("Sum(%q): %#x, and the library's is %#x", s, got, want)
		}
	}
}

// No two bytes have one sum: 256 sums.
func TestSumApart(t *testing.T) {
	sums := map[uint32]int{}
	for b := range 256 {
		sums[crc.Sum(string([]byte{byte(b)}))] = b
	}
	if len(sums) != 256 {
		t.Errorf("256 bytes have %d sums", len(sums))
	}
}

func TestSeal(t *testing.T) {
	for _, c := range []struct{ s, want string }{
		{"123456789", "123456789\xcb\xf4\x39\x26"},
		{"", "\x00\x00\x00\x00"},
		{"a", "a\xe8\xb7\xbe\x43"},
		{"abc", "abc\x35\x24\x41\xc2"},
		{"\x00", "\x00\xd2\x02\xef\x8d"},
		// Sums that have bytes of 0, which stand there too.
		{"\xff", "\xff\xff\x00\x00\x00"},
		{"\xff\xff", "\xff\xff\xff\xff\x00\x00"},
		{"\xff\xff\xff\xff", "\xff\xff\xff\xff\xff\xff\xff\xff"},
		// What is sealed is sealed anew.
		{"\x00\x00\x00\x00", "\x00\x00\x00\x00\x21\x44\xdf\x1c"},
		{all(), all() + "\x29\x05\x8c\x73"},
	} {
		if got := crc.Seal(c.s); got != c.want {
			t.Errorf("Seal(%q): %q, not %q", c.s, got, c.want)
		}
	}
}

func TestSealMade(t *testing.T) {
	for _, s := range some() {
		sum := crc.Sum(s)
		want := s + string([]byte{byte(sum >> 24), byte(sum >> 16), byte(sum >> 8), byte(sum)})
		if got := crc.Seal(s); got != want {
			t.Errorf("Seal(%q): %q, not %q", s, got, want)
		}
	}
}

func TestOpen(t *testing.T) {
	for _, c := range []struct {
		s, want string
		err     api.Errno
	}{
		{"123456789\xcb\xf4\x39\x26", "123456789", api.OK},
		{"a\xe8\xb7\xbe\x43", "a", api.OK},
		{"\x00\xd2\x02\xef\x8d", "\x00", api.OK},
		{"\xff\xff\x00\x00\x00", "\xff", api.OK},
		{"\xff\xff\xff\xff\xff\xff\xff\xff", "\xff\xff\xff\xff", api.OK},
		// Just 4 bytes: nothing was sealed.
		{"\x00\x00\x00\x00", "", api.OK},
		{"\x00\x00\x00\x01", "", api.ErrSum},
		{"\x80\x00\x00\x00", "", api.ErrSum},
		{"abcd", "", api.ErrSum},
		{"\xff\xff\xff\xff", "", api.ErrSum},
		// Less than 4: there is no sum, whatever the bytes are.
		{"", "", api.ErrSize},
		{"a", "", api.ErrSize},
		{"ab", "", api.ErrSize},
		{"abc", "", api.ErrSize},
		{"\x00", "", api.ErrSize},
		{"\x00\x00", "", api.ErrSize},
		{"\x00\x00\x00", "", api.ErrSize},
		{"\xb7\xbe\x43", "", api.ErrSize},
		// Bytes are counted, not runes: two runes of two bytes each, and one of four, are 4 bytes.
		{"\u00e4\u00f6", "", api.ErrSum},
		{"\U0001f4a7", "", api.ErrSum},
		{"\u20ac", "", api.ErrSize},
		// The sum is another one: the lowest byte first, ahead of the text, turned, of another text, none at all.
		{"a\x43\xbe\xb7\xe8", "", api.ErrSum},
		{"\xe8\xb7\xbe\x43a", "", api.ErrSum},
		{"a\x17\x48\x41\xbc", "", api.ErrSum},
		{"b\xe8\xb7\xbe\x43", "", api.ErrSum},
		{"a\x00\x00\x00\x00", "", api.ErrSum},
		{"a\xe8\xb7\xbe\x44", "", api.ErrSum},
		{"a\xe9\xb7\xbe\x43", "", api.ErrSum},
		// A byte too many or too few.
		{"a\xe8\xb7\xbe", "", api.ErrSum},
		{"\xe8\xb7\xbe\x43", "", api.ErrSum},
		{"a\xe8\xb7\xbe\x43\x00", "", api.ErrSum},
		{"\x00a\xe8\xb7\xbe\x43", "", api.ErrSum},
		{"aa\xe8\xb7\xbe\x43", "", api.ErrSum},
	} {
		if got, err := crc.Open(c.s); got != c.want || err != c.err {
			t.Errorf("Open(%q): %q %d, not %q %d", c.s, got, err, c.want, c.err)
		}
	}
}

// What was sealed is opened, once and, sealed again and again, as often.
func TestOpenSealed(t *testing.T) {
	for _, s := range append(some(), all()) {
		layers := []string{s}
		for range 3 {
			layers = append(layers, crc.Seal(layers[len(layers)-1]))
		}
		for i := 3; i > 0; i-- {
			if got, err := crc.Open(layers[i]); got != layers[i-1] || err != api.OK {
				t.Fatalf("Open(%q): %q %d, not %q", layers[i], got, err, layers[i-1])
			}
		}
	}
}

// refuse fails if the text, which is as long as a sealed one and not the same, is opened.
func refuse(t *testing.T, s string) {
	t.Helper()
	if got, err := crc.Open(s); got != "" || err != api.ErrSum {
		t.Errorf("Open(%q): %q %d, not ErrSum", s, got, err)
	}
}

// flip gives s with some bits from place on as others: those of pattern.
func flip(s string, place int, pattern uint32) string {
	out := []byte(s)
	for j := range 32 {
		if pattern>>j&1 == 1 {
			out[(place+j)/8] ^= 1 << ((place + j) % 8)
		}
	}
	return string(out)
}

// One bit is another, wherever: in the text or in the sum. So are bits side by side, up to 32 of them that lie
// wholly in the text or wholly in the sum: the sum tells all of these.
func TestOpenAltered(t *testing.T) {
	draw := rand.New(rand.NewPCG(5, 2))
	for _, s := range []string{"", "a", "\x00", "\xff\xff", "bucketline", made(draw, 64)} {
		sealed := crc.Seal(s)
		for place := range 8 * len(sealed) {
			refuse(t, flip(sealed, place, 1))
		}
		for _, part := range [][2]int{{0, 8 * len(s)}, {8 * len(s), 8 * len(sealed)}} {
			for size := 2; size <= 32; size++ {
				for place := part[0]; place+size <= part[1]; place++ {
					refuse(t, flip(sealed, place, 1<<size-1))
					refuse(t, flip(sealed, place, 1|1<<(size-1)|draw.Uint32()&(1<<size-1)))
				}
			}
		}
	}
}

// Each byte of the sum, as any other: just one of 256 is right.
func TestOpenSumBytes(t *testing.T) {
	sealed := crc.Seal("ab")
	for place := 2; place < 6; place++ {
		for b := range 256 {
			altered := []byte(sealed)
			altered[place] = byte(b)
			if string(altered) != sealed {
				refuse(t, string(altered))
			}
		}
	}
}

// All that begins a sealed text, and all that ends it, but itself.
func TestOpenPieces(t *testing.T) {
	sealed := crc.Seal("bucketline")
	for n := range len(sealed) {
		for _, piece := range []string{sealed[:n], sealed[len(sealed)-n:]} {
			want := api.ErrSum
			if n < 4 {
				want = api.ErrSize
			}
			if got, err := crc.Open(piece); got != "" || err != want {
				t.Errorf("Open(%q): %q %d, not %d", piece, got, err, want)
			}
		}
	}
}

// Made texts, most of which nobody sealed: opened just if their last 4 bytes say the sum.
func TestOpenMade(t *testing.T) {
	draw := rand.New(rand.NewPCG(5, 3))
	for range 20000 {
		s := made(draw, 4+draw.IntN(12))
		head := s[:len(s)-4]
		last := uint32(s[len(s)-4])<<24 | uint32(s[len(s)-3])<<16 | uint32(s[len(s)-2])<<8 | uint32(s[len(s)-1])
		got, err := crc.Open(s)
		if last == crc.Sum(head) {
			if got != head || err != api.OK {
				t.Errorf("Open(%q): %q %d", s, got, err)
			}
			continue
		}
		if got != "" || err != api.ErrSum {
			t.Errorf("Open(%q): %q %d, not ErrSum", s, got, err)
		}
	}
}

// shares tells whether two texts have a byte of memory in common.
func shares(a, b string) bool {
	if a == "" || b == "" {
		return false
	}
	from, to := uintptr(unsafe.Pointer(unsafe.StringData(a))), uintptr(unsafe.Pointer(unsafe.StringData(b)))
	return from < to+uintptr(len(b)) && to < from+uintptr(len(a))
}

// R4: what is handed out is new memory.
func TestHandedOut(t *testing.T) {
	for _, s := range []string{"a", "bucketline", strings.Repeat("ab", 5000)} {
		sealed := crc.Seal(s)
		again := crc.Seal(s)
		opened, _ := crc.Open(sealed)
		other, _ := crc.Open(sealed)
		texts := []string{s, sealed, again, opened, other}
		for i, a := range texts {
			for _, b := range texts[:i] {
				if shares(a, b) {
					t.Errorf("texts of %d and %d bytes share memory", len(a), len(b))
				}
			}
		}
	}
}

// R4: what is handed in is not kept: bytes that change once a call has answered change no answer.
func TestHandedIn(t *testing.T) {
	bytes := []byte(crc.Seal("bucketline"))
	before := slices.Clone(bytes)
	s := unsafe.String(&bytes[0], len(bytes))
	sum, sealed := crc.Sum(s), crc.Seal(s)
	opened, err := crc.Open(s)
	if !slices.Equal(bytes, before) {
		t.Errorf("%q became %q", before, bytes)
	}
	for i := range bytes {
		bytes[i] = '-'
	}
	if opened != "bucketline" || err != api.OK {
		t.Errorf("what was opened became %q %d", opened, err)
	}
	if sealed != crc.Seal(string(before)) {
		t.Errorf("what was sealed became %q", sealed)
	}
	if sum != crc.Sum(string(before)) || crc.Sum(s) == sum {
		t.Errorf("a sum was kept: %#x", sum)
	}
}

// R5: the same is answered again, whatever was asked between.
func TestAgain(t *testing.T) {
	texts := some()
	first := make([]string, len(texts))
	for i, s := range texts {
		first[i] = crc.Seal(s)
	}
	for i := len(texts) - 1; i >= 0; i-- {
		crc.Open("a\xe8\xb7\xbe\x44")
		if got := crc.Seal(texts[i]); got != first[i] {
			t.Errorf("Seal(%q): %q, and %q ahead", texts[i], got, first[i])
		}
	}
}

// R1: a long text ends soon; its sum is the library's.
func TestLong(t *testing.T) {
	start := time.Now()
	s := strings.Repeat(all(), 1<<15)
	sealed := crc.Seal(s)
	if want := crc32.ChecksumIEEE([]byte(s)); crc.Sum(s) != want {
		t.Errorf("%#x, not %#x", crc.Sum(s), want)
	}
	if got, err := crc.Open(sealed); got != s || err != api.OK {
		t.Errorf("%d bytes %d", len(got), err)
	}
	if took := time.Since(start); took > 30*time.Second {
		t.Errorf("took %v", took)
	}
}
