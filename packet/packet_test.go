package packet_test

import (
	"encoding/hex"
	"fmt"
	"math"
	"math/rand/v2"
	"reflect"
	"slices"
	"strings"
	"testing"
	"time"
	"unsafe"

	"bucketline/api"
	"bucketline/packet"
)

const maxObject = 1<<32 - 1

// of gives a packet of k blocks of size bytes whose one block is the last one, and that is right in all.
func of(k, size int) api.Packet {
	vec := make([]uint64, (k+63)/64)
	vec[(k-1)/64] = 1 << ((k - 1) % 64)
	return api.Packet{Object: 7, Len: k * size, K: k, Size: size, Hops: 3, Row: api.Row{Vec: vec, Data: strings.Repeat("d", size)}}
}

// with gives p with what do does to it.
func with(p api.Packet, do func(p *api.Packet)) api.Packet {
	p.Row.Vec = slices.Clone(p.Row.Vec)
	do(&p)
	return p
}

// equal tells whether a and b are alike to the word.
func equal(a, b api.Packet) bool {
	return slices.Equal(a.Row.Vec, b.Row.Vec) && slices.Equal(fields(a), fields(b))
}

// fields gives all but the row of bits.
func fields(p api.Packet) []any {
	return []any{p.Object, p.Len, p.K, p.Size, p.Hops, p.Row.Data}
}

// zero tells whether p is a packet without anything.
func zero(p api.Packet) bool {
	return equal(p, api.Packet{})
}

// told writes p in digits and reads these: it shares no step with what is tested.
func told(t *testing.T, p api.Packet) string {
	t.Helper()
	var digits strings.Builder
	fmt.Fprintf(&digits, "%08x%08x%02x%02x%02x", p.Object, p.Len, p.K, p.Size, p.Hops)
	for _, w := range p.Row.Vec {
		fmt.Fprintf(&digits, "%016x", w)
	}
	fmt.Fprintf(&digits, "%x", p.Row.Data)
	out, err := hex.DecodeString(digits.String())
	if err != nil {
		t.Fatal(err)
	}
	return string(out)
}

// made gives n bytes, the same ones at each run.
func made(draw *rand.Rand, n int) string {
	out := make([]byte, n)
	for i := range out {
		out[i] = byte(draw.Uint32())
	}
	return string(out)
}

// madePacket gives a packet that is right, the same one at each run.
func madePacket(draw *rand.Rand) api.Packet {
	p := of(1+draw.IntN(api.MaxK), 1+draw.IntN(api.MaxBlock))
	p.Object, p.Len, p.Hops = draw.IntN(maxObject+1), draw.IntN(p.K*p.Size+1), draw.IntN(api.MaxHops+1)
	for i := range p.K {
		if draw.IntN(3) == 0 {
			p.Row.Vec[i/64] ^= 1 << (i % 64)
		}
	}
	if bit := draw.IntN(p.K); !slices.ContainsFunc(p.Row.Vec, func(w uint64) bool { return w != 0 }) {
		p.Row.Vec[bit/64] |= 1 << (bit % 64)
	}
	p.Row.Data = made(draw, p.Size)
	return p
}

// right gives packets at the edges that the document names, within them.
func right() []api.Packet {
	return []api.Packet{
		{Object: 1, Len: 3, K: 2, Size: 2, Hops: 4, Row: api.Row{Vec: []uint64{3}, Data: "ab"}},
		of(1, 1), of(1, api.MaxBlock), of(api.MaxK, 1), of(api.MaxK, api.MaxBlock),
		of(63, 2), of(64, 2), of(65, 2), of(127, 2), of(2, 63),
		with(of(2, 3), func(p *api.Packet) { p.Object = 0 }),
		with(of(2, 3), func(p *api.Packet) { p.Object = 1 }),
		with(of(2, 3), func(p *api.Packet) { p.Object = 1 << 31 }),
		with(of(2, 3), func(p *api.Packet) { p.Object = maxObject - 1 }),
		with(of(2, 3), func(p *api.Packet) { p.Object = maxObject }),
		with(of(2, 3), func(p *api.Packet) { p.Len = 0 }),
		with(of(2, 3), func(p *api.Packet) { p.Len = 1 }),
		with(of(2, 3), func(p *api.Packet) { p.Len = 5 }),
		with(of(1, 1), func(p *api.Packet) { p.Len = 0 }),
		with(of(api.MaxK, api.MaxBlock), func(p *api.Packet) { p.Len = 0 }),
		with(of(api.MaxK, api.MaxBlock), func(p *api.Packet) { p.Len = api.MaxK*api.MaxBlock - 1 }),
		with(of(2, 3), func(p *api.Packet) { p.Hops = 0 }),
		with(of(2, 3), func(p *api.Packet) { p.Hops = 1 }),
		with(of(2, 3), func(p *api.Packet) { p.Hops = api.MaxHops }),
		with(of(65, 1), func(p *api.Packet) { p.Row.Vec = []uint64{1, 0} }),
		with(of(65, 1), func(p *api.Packet) { p.Row.Vec = []uint64{0, 1} }),
		with(of(65, 1), func(p *api.Packet) { p.Row.Vec = []uint64{math.MaxUint64, 1} }),
		with(of(63, 1), func(p *api.Packet) { p.Row.Vec = []uint64{math.MaxUint64 >> 1} }),
		with(of(64, 1), func(p *api.Packet) { p.Row.Vec = []uint64{math.MaxUint64} }),
		with(of(127, 1), func(p *api.Packet) { p.Row.Vec = []uint64{math.MaxUint64, math.MaxUint64 >> 1} }),
		with(of(128, 1), func(p *api.Packet) { p.Row.Vec = []uint64{math.MaxUint64, math.MaxUint64} }),
		with(of(2, 3), func(p *api.Packet) { p.Row.Data = "\x00\x00\x00" }),
		with(of(2, 3), func(p *api.Packet) { p.Row.Data = "\xff\xfe\x80" }),
		with(of(2, 3), func(p *api.Packet) { p.Row.Data = "\u20ac" }),
	}
}

// wrong gives packets that part from a right one by one thing that Check doesn't take, and what that is.
func wrong() map[string]api.Packet {
	out := map[string]api.Packet{"nothing": {}}
	put := func(name string, p api.Packet, do func(p *api.Packet)) { out[name] = with(p, do) }
	base := of(2, 3)
	for _, n := range []int{-1, -2, -1 << 31, -1 << 32, math.MinInt, maxObject + 1, maxObject + 2, 1 << 33, 1<<40 + 7, 1 << 62, math.MaxInt} {
		put(fmt.Sprintf("Object %d", n), base, func(p *api.Packet) { p.Object = n })
	}
	for _, n := range []int{-1, -6, math.MinInt, math.MinInt + 6, 7, 8, 1 << 32, 1<<32 + 1, 1 << 62, math.MaxInt} {
		put(fmt.Sprintf("Len %d", n), base, func(p *api.Packet) { p.Len = n })
	}
	put("Len of one more at both limits", of(api.MaxK, api.MaxBlock), func(p *api.Packet) { p.Len++ })
	put("Len of one more at K 1, Size 1", of(1, 1), func(p *api.Packet) { p.Len++ })
	put("Len of K and Size, not of their product", of(1, 2), func(p *api.Packet) { p.Len = 3 })
	for _, n := range []int{-1, -15, math.MinInt, api.MaxHops + 1, 255, 256, 256 + 3, 1<<32 + 3, math.MaxInt} {
		put(fmt.Sprintf("Hops %d", n), base, func(p *api.Packet) { p.Hops = n })
	}
	// The row is left as it is, or has none, two or three words; Len is 0, so that it fits whatever the product is.
	for _, n := range []int{0, -1, -2, -64, math.MinInt, math.MinInt + 2, api.MaxK + 1, 192, 255, 256 + 2, 1<<32 + 2, 1 << 61, math.MaxInt} {
		for _, vec := range [][]uint64{nil, {2}, {2, 0}, {2, 0, 0}} {
			put(fmt.Sprintf("K %d and %d words", n, len(vec)), base, func(p *api.Packet) { p.K, p.Len, p.Row.Vec = n, 0, vec })
		}
	}
	for _, n := range []int{-1, -3, math.MinInt, 256 + 3, 1<<32 + 3, 1 << 61, math.MaxInt} {
		put(fmt.Sprintf("Size %d", n), base, func(p *api.Packet) { p.Size, p.Len = n, 0 })
	}
	for _, n := range []int{0, api.MaxBlock + 1, 128, 255, 256, 300} { // with as many bytes as it says
		put(fmt.Sprintf("Size %d and its bytes", n), base, func(p *api.Packet) { p.Size, p.Len, p.Row.Data = n, 0, strings.Repeat("d", n) })
	}
	for k, rows := range map[int][][]uint64{
		1:   {nil, {}, {0}, {2}, {3}, {1 << 63}, {1, 0}, {1, 1}, {0, 1}, {1, 0, 0}},
		2:   {nil, {0}, {4}, {7}, {3, 0}, {0, 1}},
		63:  {nil, {0}, {1 << 63}, {math.MaxUint64}, {1, 0}},
		64:  {nil, {0}, {0, 0}, {1, 0}, {0, 1}},
		65:  {nil, {0}, {1}, {0, 0}, {0, 2}, {1, 2}, {0, 3}, {1, 1 << 63}, {1, 0, 0}, {0, 0, 1}, {1, 1, 0}},
		127: {nil, {1}, {0, 0}, {0, 1 << 63}, {math.MaxUint64, math.MaxUint64}, {1, 0, 0}},
		128: {nil, {0}, {1}, {0, 0}, {0, 0, 0}, {1, 0, 0}, {0, 0, 1}},
	} {
		for _, vec := range rows {
			put(fmt.Sprintf("K %d and the row %x", k, vec), of(k, 1), func(p *api.Packet) { p.Row.Vec = vec })
		}
	}
	for _, n := range []int{0, 1, 2, 4, 6, 64, 256 + 3, 1 << 16} {
		put(fmt.Sprintf("Data of %d bytes", n), base, func(p *api.Packet) { p.Row.Data = strings.Repeat("d", n) })
	}
	put("Data of 3 runes", base, func(p *api.Packet) { p.Row.Data = "\u00e4bc" })
	put("Data of one more at MaxBlock", of(1, api.MaxBlock), func(p *api.Packet) { p.Row.Data += "d" })
	put("no Data", of(1, 1), func(p *api.Packet) { p.Row.Data = "" })
	return out
}

func TestCheck(t *testing.T) {
	for _, p := range right() {
		if err := packet.Check(p); err != api.OK {
			t.Errorf("Check(%#v): %d, not OK", p, err)
		}
	}
	for name, p := range wrong() {
		if err := packet.Check(p); err != api.ErrArg {
			t.Errorf("Check of %s: %d, not ErrArg", name, err)
		}
	}
}

// All K and all Sizes, near their edges on both sides.
func TestCheckShapes(t *testing.T) {
	for k := -3; k <= api.MaxK+70; k++ {
		for size := -3; size <= api.MaxBlock+10; size++ {
			p := api.Packet{K: k, Size: size, Row: api.Row{Vec: make([]uint64, (max(k, 1)+63)/64), Data: strings.Repeat("d", max(size, 0))}}
			p.Row.Vec[0] = 1
			want := api.OK
			if k < 1 || k > 128 || size < 1 || size > 64 {
				want = api.ErrArg
			}
			if err := packet.Check(p); err != want {
				t.Errorf("Check of K %d and Size %d: %d, not %d", k, size, err, want)
			}
			// A length of the product, and one more.
			p.Len = k * size
			if err := packet.Check(p); err != want {
				t.Errorf("Check of K %d, Size %d and Len %d: %d, not %d", k, size, p.Len, err, want)
			}
			p.Len++
			if err := packet.Check(p); err != api.ErrArg {
				t.Errorf("Check of K %d, Size %d and Len %d: %d, not ErrArg", k, size, p.Len, err)
			}
		}
	}
}

// All K, each bit of the row's words alone: taken below K, refused from K on.
func TestCheckBits(t *testing.T) {
	for k := 1; k <= api.MaxK; k++ {
		for i := range (k + 63) / 64 * 64 {
			p := of(k, 1)
			clear(p.Row.Vec)
			p.Row.Vec[i/64] = 1 << (i % 64)
			want := api.OK
			if i >= k {
				want = api.ErrArg
			}
			if err := packet.Check(p); err != want {
				t.Errorf("Check of K %d and bit %d: %d, not %d", k, i, err, want)
			}
		}
	}
}

func TestEncode(t *testing.T) {
	for _, c := range []struct {
		p    api.Packet
		want string
	}{
		{
			api.Packet{K: 1, Size: 1, Row: api.Row{Vec: []uint64{1}, Data: "a"}},
			"\x00\x00\x00\x00\x00\x00\x00\x00\x01\x01\x00\x00\x00\x00\x00\x00\x00\x00\x01a",
		},
		{
			api.Packet{Object: 0x01020304, Len: 0x0506, K: 64, Size: 21, Hops: 15, Row: api.Row{Vec: []uint64{0xf1f2f3f4f5f6f7f8}, Data: "the bytes of one block"[:21]}},
			"\x01\x02\x03\x04\x00\x00\x05\x06\x40\x15\x0f\xf1\xf2\xf3\xf4\xf5\xf6\xf7\xf8the bytes of one bloc",
		},
		{
			api.Packet{Object: maxObject, Len: 3, K: 65, Size: 2, Hops: 9, Row: api.Row{Vec: []uint64{5, 1}, Data: "\x00\xff"}},
			"\xff\xff\xff\xff\x00\x00\x00\x03\x41\x02\x09\x00\x00\x00\x00\x00\x00\x00\x05\x00\x00\x00\x00\x00\x00\x00\x01\x00\xff",
		},
	} {
		if got, err := packet.Encode(c.p); got != c.want || err != api.OK {
			t.Errorf("Encode(%#v): %q %d, not %q", c.p, got, err, c.want)
		}
		if got, err := packet.Decode(c.want); !equal(got, c.p) || err != api.OK {
			t.Errorf("Decode(%q): %#v %d, not %#v", c.want, got, err, c.p)
		}
	}
	for _, p := range right() {
		if got, err := packet.Encode(p); got != told(t, p) || err != api.OK {
			t.Errorf("Encode(%#v): %q %d, not %q", p, got, err, told(t, p))
		}
	}
}

func TestEncodeWrong(t *testing.T) {
	for name, p := range wrong() {
		if got, err := packet.Encode(p); got != "" || err != api.ErrArg {
			t.Errorf("Encode of %s: %q %d, not ErrArg", name, got, err)
		}
	}
}

// The chapter's example, and how many bytes any packet has.
func TestEncodeLengths(t *testing.T) {
	if s, err := packet.Encode(of(1, 1)); len(s) != 20 || err != api.OK {
		t.Errorf("K 1 and Size 1 have %d bytes: %d", len(s), err)
	}
	for k := 1; k <= api.MaxK; k++ {
		for size := 1; size <= api.MaxBlock; size++ {
			want := 11 + 8 + size
			if k > 64 {
				want += 8
			}
			if s, err := packet.Encode(of(k, size)); len(s) != want || err != api.OK {
				t.Errorf("K %d and Size %d have %d bytes, not %d: %d", k, size, len(s), want, err)
			}
		}
	}
}

// checkDecode fails, unless Decode refuses s by just that error, with nothing beside it.
func checkDecode(t *testing.T, s string, want api.Errno) {
	t.Helper()
	if got, err := packet.Decode(s); err != want || !zero(got) {
		t.Errorf("Decode(%q): %#v %d, not %d", s, got, err, want)
	}
}

// What was encoded is decoded, to the word.
func TestDecode(t *testing.T) {
	draw := rand.New(rand.NewPCG(7, 1))
	all := right()
	for range 3000 {
		all = append(all, madePacket(draw))
	}
	for _, p := range all {
		s, err := packet.Encode(p)
		if err != api.OK {
			t.Fatalf("Encode(%#v): %d", p, err)
		}
		if got, err := packet.Decode(s); err != api.OK || !equal(got, p) || !packet.Same(got, p) {
			t.Errorf("Decode(%q): %#v %d, not %#v", s, got, err, p)
		}
	}
}

// Of each length that a text may be cut to, and of each that is too long.
func TestDecodeCut(t *testing.T) {
	draw := rand.New(rand.NewPCG(7, 2))
	all := right()
	for range 100 {
		all = append(all, madePacket(draw))
	}
	for _, p := range all {
		s := told(t, p)
		for n := range len(s) {
			checkDecode(t, s[:n], api.ErrSize)
		}
		for _, behind := range []string{"\x00", "x", "\xff", "bucketline", s, strings.Repeat("\x00", 300)} {
			checkDecode(t, s+behind, api.ErrSyntax)
		}
	}
}

// Less than 11 bytes, whatever they are: even such whose K or Size is none.
func TestDecodeShort(t *testing.T) {
	for n := range 11 {
		for _, b := range []string{"\x00", "\x01", "a", "\xff"} {
			checkDecode(t, strings.Repeat(b, n), api.ErrSize)
		}
	}
	checkDecode(t, strings.Repeat("\x00", 11), api.ErrSyntax)
	checkDecode(t, strings.Repeat("\xff", 11), api.ErrSyntax)
	checkDecode(t, strings.Repeat("\x01", 11), api.ErrSize)
}

// Every K and Size that a byte may hold, with each length near the edges: how many bytes are asked for is said by those that Check takes alone.
func TestDecodeShapes(t *testing.T) {
	for k := range 256 {
		for size := range 256 {
			head := "\x00\x00\x00\x07\x00\x00\x00\x00" + string([]byte{byte(k), byte(size)}) + "\x03"
			count := max((k+63)/64, 1)
			row := strings.Repeat("\x00", 8*(count-1))
			s := head + "\x00\x00\x00\x00\x00\x00\x00\x01" + row + strings.Repeat("d", size)
			if k < 1 || k > 128 || size < 1 || size > 64 {
				for _, n := range []int{11, 12, 18, 19, len(s) - 1, len(s)} {
					checkDecode(t, s[:min(n, len(s))], api.ErrSyntax)
				}
				checkDecode(t, s+"x", api.ErrSyntax)
				continue
			}
			for _, n := range []int{10, 11, 12, 18, 19, len(s) - size - 1, len(s) - size, len(s) - 1} {
				checkDecode(t, s[:min(n, len(s)-1)], api.ErrSize)
			}
			checkDecode(t, s+"x", api.ErrSyntax)
			p := of(k, size)
			clear(p.Row.Vec)
			p.Row.Vec[0], p.Len = 1, 0
			if got, err := packet.Decode(s); err != api.OK || !equal(got, p) {
				t.Errorf("Decode(%q): %#v %d, not %#v", s, got, err, p)
			}
		}
	}
}

// Fields that Check doesn't take, as they would be written: ErrSyntax, and ErrSize ahead of it, where the text is cut too.
func TestDecodeWrong(t *testing.T) {
	base := told(t, of(2, 3))
	two := told(t, of(65, 3))
	zeros, full := strings.Repeat("\x00", 8), strings.Repeat("\xff", 8)
	for name, s := range map[string]string{
		"Len of one more":          base[:4] + "\x00\x00\x00\x07" + base[8:],
		"Len of 2^32 - 1":          base[:4] + "\xff\xff\xff\xff" + base[8:],
		"Len in the highest byte":  base[:4] + "\x01\x00\x00\x00" + base[8:],
		"Len of 2^31":              base[:4] + "\x80\x00\x00\x00" + base[8:],
		"Hops 16":                  base[:10] + "\x10" + base[11:],
		"Hops 255":                 base[:10] + "\xff" + base[11:],
		"no bit":                   base[:11] + zeros + base[19:],
		"bit K":                    base[:11] + zeros[:7] + "\x04" + base[19:],
		"bit K and one below":      base[:11] + zeros[:7] + "\x05" + base[19:],
		"bit 63":                   base[:11] + "\x80" + zeros[:6] + "\x01" + base[19:],
		"all bits":                 base[:11] + full + base[19:],
		"no bit in two words":      two[:11] + zeros + zeros + two[27:],
		"bit K in the second word": two[:11] + zeros + zeros[:7] + "\x02" + two[27:],
		"all bits of two words":    two[:11] + full + full + two[27:],
		"several at once":          "\xff\xff\xff\xff\xff\xff\xff\xff\x02\x03\xff" + full + base[19:],
	} {
		if len(s) != len(base) && len(s) != len(two) {
			t.Fatalf("%s: %d bytes", name, len(s))
		}
		if got, err := packet.Decode(s); err != api.ErrSyntax || !zero(got) {
			t.Errorf("Decode of %s: %#v %d, not ErrSyntax", name, got, err)
		}
		checkDecode(t, s+"x", api.ErrSyntax)
		for n := range len(s) {
			checkDecode(t, s[:n], api.ErrSize)
		}
	}
	// All that Hops and the low bytes of Len may be.
	for n := range 256 {
		hops, length := base[:10]+string([]byte{byte(n)})+base[11:], base[:7]+string([]byte{byte(n)})+base[8:]
		if _, err := packet.Decode(hops); (err == api.OK) != (n <= 15) || (err == api.ErrSyntax) != (n > 15) {
			t.Errorf("Decode of Hops %d: %d", n, err)
		}
		if _, err := packet.Decode(length); (err == api.OK) != (n <= 6) || (err == api.ErrSyntax) != (n > 6) {
			t.Errorf("Decode of Len %d: %d", n, err)
		}
	}
}

// Made texts, and packets with some bytes altered: what is decoded encodes to just that text, and what is refused, by the right error.
func TestDecodeMade(t *testing.T) {
	draw := rand.New(rand.NewPCG(7, 3))
	read := 0
	for i := range 20000 {
		s := made(draw, draw.IntN(60))
		if i%4 > 0 {
			bytes := []byte(told(t, madePacket(draw)))
			for range draw.IntN(4) {
				bytes[draw.IntN(len(bytes))] ^= 1 << draw.IntN(8)
			}
			s = string(bytes)
		}
		p, err := packet.Decode(s)
		if err == api.OK {
			read++
			if again, e := packet.Encode(p); again != s || e != api.OK {
				t.Errorf("Encode(Decode(%q)): %q %d", s, again, e)
			}
			continue
		}
		want := api.ErrSyntax
		if len(s) < 11 {
			want = api.ErrSize
		} else if k, size := int(s[8]), int(s[9]); k >= 1 && k <= 128 && size >= 1 && size <= 64 && len(s) < 11+8*((k+63)/64)+size {
			want = api.ErrSize
		}
		if err != want || !zero(p) {
			t.Errorf("Decode(%q): %#v %d, not %d", s, p, err, want)
		}
		if want == api.ErrSyntax && encodes(t, s) {
			t.Errorf("Decode(%q): %d, though it is just what Encode gives", s, err)
		}
	}
	if read < 3000 {
		t.Errorf("only %d texts were packets", read)
	}
}

// encodes tells whether s, whose 11 bytes are there, is what Encode gives of the fields that stand in it.
func encodes(t *testing.T, s string) bool {
	t.Helper()
	var p api.Packet
	if _, err := fmt.Sscanf(hex.EncodeToString([]byte(s[:11])), "%08x%08x%02x%02x%02x", &p.Object, &p.Len, &p.K, &p.Size, &p.Hops); err != nil {
		t.Fatal(err)
	}
	rest := s[11:]
	for range (p.K + 63) / 64 {
		if len(rest) < 8 {
			return false
		}
		w := uint64(0)
		fmt.Sscanf(hex.EncodeToString([]byte(rest[:8])), "%016x", &w)
		p.Row.Vec, rest = append(p.Row.Vec, w), rest[8:]
	}
	p.Row.Data = rest
	got, err := packet.Encode(p)
	return err == api.OK && got == s
}

// checkSame fails, unless Same says so of both orders.
func checkSame(t *testing.T, a, b api.Packet, want bool) {
	t.Helper()
	if packet.Same(a, b) != want || packet.Same(b, a) != want {
		t.Errorf("Same(%#v, %#v): not %v both ways", a, b, want)
	}
}

func TestSame(t *testing.T) {
	base := api.Packet{Object: 1, Len: 3, K: 2, Size: 2, Hops: 4, Row: api.Row{Vec: []uint64{3}, Data: "ab"}}
	checkSame(t, base, base, true)
	checkSame(t, base, with(base, func(p *api.Packet) {}), true)
	checkSame(t, api.Packet{}, api.Packet{}, true)
	checkSame(t, base, api.Packet{}, false)
	for name, do := range map[string]func(p *api.Packet){
		"Object":                   func(p *api.Packet) { p.Object = 2 },
		"Object's 33rd bit":        func(p *api.Packet) { p.Object += 1 << 32 },
		"Object's sign":            func(p *api.Packet) { p.Object = -1 },
		"Len":                      func(p *api.Packet) { p.Len = 4 },
		"Len's 33rd bit":           func(p *api.Packet) { p.Len += 1 << 32 },
		"K":                        func(p *api.Packet) { p.K = 3 },
		"K's 9th bit":              func(p *api.Packet) { p.K += 256 },
		"Size":                     func(p *api.Packet) { p.Size = 3 },
		"Hops":                     func(p *api.Packet) { p.Hops = 5 },
		"Hops' 9th bit":            func(p *api.Packet) { p.Hops += 256 },
		"Vec":                      func(p *api.Packet) { p.Row.Vec[0] = 2 },
		"Vec's highest bit":        func(p *api.Packet) { p.Row.Vec[0] |= 1 << 63 },
		"Vec's second word":        func(p *api.Packet) { p.Row.Vec = append(p.Row.Vec, 1) },
		"Vec's third word":         func(p *api.Packet) { p.Row.Vec = append(p.Row.Vec, 0, 1) },
		"no Vec":                   func(p *api.Packet) { p.Row.Vec = nil },
		"Data":                     func(p *api.Packet) { p.Row.Data = "ac" },
		"Data's first byte":        func(p *api.Packet) { p.Row.Data = "bb" },
		"a byte of Data more":      func(p *api.Packet) { p.Row.Data = "ab\x00" },
		"a byte of Data less":      func(p *api.Packet) { p.Row.Data = "a" },
		"no Data":                  func(p *api.Packet) { p.Row.Data = "" },
		"Len and Object exchanged": func(p *api.Packet) { p.Len, p.Object = p.Object, p.Len },
		"Size and Hops exchanged":  func(p *api.Packet) { p.Size, p.Hops = p.Hops, p.Size },
		"K and Hops exchanged":     func(p *api.Packet) { p.K, p.Hops = p.Hops, p.K },
	} {
		other := with(base, do)
		if packet.Same(base, other) || packet.Same(other, base) {
			t.Errorf("the same, though they part in %s", name)
		}
		checkSame(t, other, with(other, func(p *api.Packet) {}), true)
	}
	// All fields are compared, were there more of them one day.
	if n, m := reflect.TypeFor[api.Packet]().NumField(), reflect.TypeFor[api.Row]().NumField(); n != 6 || m != 2 {
		t.Errorf("a packet has %d fields and its row %d", n, m)
	}
}

// Words of 0 at the end make no difference, at whichever end they are more, whatever the other fields are.
func TestSameWords(t *testing.T) {
	rows := [][][]uint64{
		{nil, {}, {0}, {0, 0}, {0, 0, 0, 0, 0}},
		{{1}, {1, 0}, {1, 0, 0}},
		{{0, 1}, {0, 1, 0}},
		{{0, 0, 1}},
		{{1, 1}, {1, 1, 0, 0}},
		{{1 << 63}, {1 << 63, 0}},
		{{math.MaxUint64, math.MaxUint64}, {math.MaxUint64, math.MaxUint64, 0}},
	}
	for _, p := range append(right(), api.Packet{}, api.Packet{Object: -1, Len: math.MinInt, K: math.MaxInt, Size: -7, Hops: 1 << 40}) {
		for i, these := range rows {
			for j, those := range rows {
				for _, a := range these {
					for _, b := range those {
						a := with(p, func(p *api.Packet) { p.Row.Vec = a })
						b := with(p, func(p *api.Packet) { p.Row.Vec = b })
						checkSame(t, a, b, i == j)
						b.Hops++
						checkSame(t, a, b, false)
					}
				}
			}
		}
	}
}

// Packets that Check refuses are the same too, if all fields are: Same asks for no more.
func TestSameWrong(t *testing.T) {
	all := wrong()
	for name, a := range all {
		for other, b := range all {
			want := slices.Equal(trimmed(a.Row.Vec), trimmed(b.Row.Vec)) && slices.Equal(fields(a), fields(b))
			if got := packet.Same(a, b); got != want {
				t.Errorf("Same of %s and %s: %v", name, other, got)
			}
		}
	}
}

func trimmed(v []uint64) []uint64 {
	for len(v) > 0 && v[len(v)-1] == 0 {
		v = v[:len(v)-1]
	}
	return v
}

// shares tells whether two texts have a byte of memory in common.
func shares(a, b string) bool {
	if a == "" || b == "" {
		return false
	}
	from, to := uintptr(unsafe.Pointer(unsafe.StringData(a))), uintptr(unsafe.Pointer(unsafe.StringData(b)))
	return from < to+uintptr(len(b)) && to < from+uintptr(len(a))
}

// R4: what is handed out is new memory, were it one byte.
func TestHandedOut(t *testing.T) {
	for _, p := range []api.Packet{of(1, 1), of(2, 3), of(65, 1), of(128, 64)} {
		var texts []string
		var rows [][]uint64
		texts = append(texts, p.Row.Data)
		rows = append(rows, p.Row.Vec)
		for range 2 {
			s, _ := packet.Encode(p)
			texts = append(texts, s)
			for range 2 {
				got, err := packet.Decode(s)
				if err != api.OK {
					t.Fatalf("Decode(%q): %d", s, err)
				}
				texts, rows = append(texts, got.Row.Data), append(rows, got.Row.Vec)
			}
		}
		for i, a := range texts {
			for _, b := range texts[:i] {
				if shares(a, b) {
					t.Errorf("%q and %q share memory", a, b)
				}
			}
		}
		want := slices.Clone(p.Row.Vec)
		for i, a := range rows {
			for _, b := range rows[i+1:] {
				clear(a[:cap(a)])
				if !slices.Equal(b, want) {
					t.Errorf("a row became %x", b)
				}
			}
		}
	}
}

// R4: what is handed in is not changed, not even behind a list's end, and not kept.
func TestHandedIn(t *testing.T) {
	all := []uint64{9, 5, 1, 8}
	data := []byte("-ab-")
	p := api.Packet{Object: 1, Len: 3, K: 65, Size: 2, Hops: 4, Row: api.Row{Vec: all[1:3], Data: unsafe.String(&data[1], 2)}}
	want := told(t, p)
	s, err := packet.Encode(p)
	packet.Check(p)
	packet.Same(p, p)
	packet.Same(p, api.Packet{Object: 1, Len: 3, K: 65, Size: 2, Hops: 4, Row: api.Row{Vec: all[1:2], Data: "ab"}})
	if !slices.Equal(all, []uint64{9, 5, 1, 8}) || string(data) != "-ab-" {
		t.Errorf("the row, the text and what lies around them became %d %q", all, data)
	}
	clear(all)
	clear(data)
	if s != want || err != api.OK {
		t.Errorf("what was encoded became %q %d", s, err)
	}
	bytes := []byte(want + "x")
	got, err := packet.Decode(unsafe.String(&bytes[0], len(want)))
	if string(bytes) != want+"x" {
		t.Errorf("%q became %q", want+"x", bytes)
	}
	for i := range bytes {
		bytes[i] = '-'
	}
	if err != api.OK || told(t, got) != want {
		t.Errorf("what was decoded became %#v %d", got, err)
	}
}

// R5: the same is answered again, whatever was asked between.
func TestAgain(t *testing.T) {
	all := right()
	first := make([]string, len(all))
	for i, p := range all {
		first[i], _ = packet.Encode(p)
	}
	for i := len(all) - 1; i >= 0; i-- {
		packet.Encode(api.Packet{})
		packet.Decode("x")
		packet.Decode(first[0] + "x")
		packet.Same(all[0], all[i])
		if got, err := packet.Encode(all[i]); got != first[i] || err != api.OK {
			t.Errorf("Encode(%#v): %q %d, and %q ahead", all[i], got, err, first[i])
		}
		if got, err := packet.Decode(first[i]); !equal(got, all[i]) || err != api.OK {
			t.Errorf("Decode(%q): %#v %d", first[i], got, err)
		}
	}
}

// R1: of long rows and texts all calls end soon.
func TestLong(t *testing.T) {
	start := time.Now()
	long := strings.Repeat("d", 1<<24)
	row := make([]uint64, 1<<20)
	row[0] = 1
	p := of(2, 3)
	p.Row.Vec = row
	other := with(p, func(p *api.Packet) { p.Row.Vec[len(row)-1] = 1 })
	checkLong := func(p api.Packet) {
		if s, err := packet.Encode(p); s != "" || err != api.ErrArg || packet.Check(p) != api.ErrArg {
			t.Fatalf("%d", err)
		}
	}
	base := told(t, of(2, 3))
	for range 20000 {
		checkLong(p)
		checkLong(with(of(2, 3), func(p *api.Packet) { p.Row.Data = long }))
		// A text that goes on behind a packet isn't read to its end.
		if _, err := packet.Decode(long); err != api.ErrSyntax {
			t.Fatalf("%d", err)
		}
	}
	for range 1000 {
		checkDecode(t, base+long[:1<<12], api.ErrSyntax)
	}
	if packet.Same(p, other) || !packet.Same(p, with(p, func(p *api.Packet) { p.Row.Vec = []uint64{1} })) {
		t.Errorf("long rows are told apart wrongly")
	}
	if took := time.Since(start); took > 30*time.Second {
		t.Errorf("took %v", took)
	}
}
