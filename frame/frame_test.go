package frame_test

import (
	"encoding/hex"
	"fmt"
	"hash/crc32"
	"math"
	"math/rand/v2"
	"reflect"
	"slices"
	"strings"
	"testing"
	"time"
	"unsafe"

	"bucketline/api"
	"bucketline/frame"
	"bucketline/packet"
)

const maxInc = 1<<32 - 1

// one gives a packet that chapter 7 takes.
func one() api.Packet {
	return api.Packet{Object: 1, Len: 3, K: 2, Size: 2, Hops: 4, Row: api.Row{Vec: []uint64{3}, Data: "ab"}}
}

// of gives a packet of k blocks of size bytes whose one block is the last one, and that is right in all.
func of(k, size int) api.Packet {
	vec := make([]uint64, (k+63)/64)
	vec[(k-1)/64] = 1 << ((k - 1) % 64)
	return api.Packet{Object: 7, Len: k * size, K: k, Size: size, Hops: 3, Row: api.Row{Vec: vec, Data: strings.Repeat("d", size)}}
}

func hello(from, inc int) api.Frame {
	return api.Frame{Kind: api.FrameHello, From: from, Inc: inc}
}

func data(from, inc int, p api.Packet) api.Frame {
	return api.Frame{Kind: api.FrameData, From: from, Inc: inc, Packet: p}
}

// with gives f with what do does to it.
func with(f api.Frame, do func(f *api.Frame)) api.Frame {
	f.Packet.Row.Vec = slices.Clone(f.Packet.Row.Vec)
	do(&f)
	return f
}

// equal tells whether a and b are alike to the word.
func equal(a, b api.Frame) bool {
	return slices.Equal(a.Packet.Row.Vec, b.Packet.Row.Vec) && slices.Equal(fields(a), fields(b))
}

// fields gives all but the row of bits.
func fields(f api.Frame) []any {
	p := f.Packet
	return []any{f.Kind, f.From, f.Inc, p.Object, p.Len, p.K, p.Size, p.Hops, p.Row.Data}
}

// zero tells whether f is a frame without anything.
func zero(f api.Frame) bool {
	return equal(f, api.Frame{})
}

// bytesOf reads digits.
func bytesOf(t *testing.T, digits string) string {
	t.Helper()
	out, err := hex.DecodeString(digits)
	if err != nil {
		t.Fatal(err)
	}
	return string(out)
}

// plain writes f in digits and reads these, without a sum: it shares no step with what is tested.
func plain(t *testing.T, f api.Frame) string {
	t.Helper()
	var digits strings.Builder
	fmt.Fprintf(&digits, "%02x%02x%08x", f.Kind, f.From, f.Inc)
	if p := f.Packet; f.Kind == 2 {
		fmt.Fprintf(&digits, "%08x%08x%02x%02x%02x", p.Object, p.Len, p.K, p.Size, p.Hops)
		for _, w := range p.Row.Vec {
			fmt.Fprintf(&digits, "%016x", w)
		}
		fmt.Fprintf(&digits, "%x", p.Row.Data)
	}
	return bytesOf(t, digits.String())
}

// sealed gives s with its sum, by the library's.
func sealed(t *testing.T, s string) string {
	t.Helper()
	return s + bytesOf(t, fmt.Sprintf("%08x", crc32.ChecksumIEEE([]byte(s))))
}

// told gives what f has to be as bytes.
func told(t *testing.T, f api.Frame) string {
	t.Helper()
	return sealed(t, plain(t, f))
}

// made gives n bytes, the same ones at each run.
func made(draw *rand.Rand, n int) string {
	out := make([]byte, n)
	for i := range out {
		out[i] = byte(draw.Uint32())
	}
	return string(out)
}

// madeFrame gives a frame that is right, the same one at each run.
func madeFrame(draw *rand.Rand) api.Frame {
	from, inc := draw.IntN(api.MaxNodes), draw.IntN(maxInc+1)
	if draw.IntN(4) == 0 {
		return hello(from, inc)
	}
	p := of(1+draw.IntN(api.MaxK), 1+draw.IntN(api.MaxBlock))
	p.Object, p.Len, p.Hops = draw.IntN(maxInc+1), draw.IntN(p.K*p.Size+1), draw.IntN(api.MaxHops+1)
	clear(p.Row.Vec)
	for range 1 + draw.IntN(5) {
		bit := draw.IntN(p.K)
		p.Row.Vec[bit/64] |= 1 << (bit % 64)
	}
	p.Row.Data = made(draw, p.Size)
	return data(from, inc, p)
}

// right gives frames at the edges that the document names, within them.
func right() []api.Frame {
	out := []api.Frame{hello(0, 0), hello(7, maxInc), data(0, 258, one()), data(7, maxInc, one())}
	for from := range 8 {
		out = append(out, hello(from, 5), data(from, 5, one()))
	}
	for _, inc := range []int{0, 1, 255, 256, 1 << 16, 1 << 24, 1<<31 - 1, 1 << 31, maxInc - 1, maxInc} {
		out = append(out, hello(3, inc), data(3, inc, one()))
	}
	for _, p := range []api.Packet{
		of(1, 1), of(1, api.MaxBlock), of(63, 2), of(64, 2), of(65, 2), of(api.MaxK, 1), of(api.MaxK, api.MaxBlock),
		{K: 1, Size: 1, Row: api.Row{Vec: []uint64{1}, Data: "\x00"}},
		{Object: maxInc, Len: 0, K: 128, Size: 1, Hops: 15, Row: api.Row{Vec: []uint64{math.MaxUint64, math.MaxUint64}, Data: "\xff"}},
	} {
		out = append(out, data(2, 9, p))
	}
	return out
}

// zeros gives hellos whose packet is zero in other words: empty lists are, and rows none of whose bits is set.
func zeros() []api.Frame {
	var out []api.Frame
	for _, vec := range [][]uint64{{}, {0}, {0, 0}, {0, 0, 0}} {
		f := hello(4, 6)
		f.Packet.Row.Vec = vec
		out = append(out, f)
	}
	return out
}

// parts gives what may be done to one field of a packet alone, by the field's name.
func parts() map[string]func(p *api.Packet) {
	return map[string]func(p *api.Packet){
		"Object 1":           func(p *api.Packet) { p.Object++ },
		"Object -1":          func(p *api.Packet) { p.Object-- },
		"Object's 33rd bit":  func(p *api.Packet) { p.Object += 1 << 32 },
		"Len 1":              func(p *api.Packet) { p.Len++ },
		"Len -1":             func(p *api.Packet) { p.Len-- },
		"Len's 33rd bit":     func(p *api.Packet) { p.Len += 1 << 32 },
		"K 1":                func(p *api.Packet) { p.K++ },
		"K -1":               func(p *api.Packet) { p.K-- },
		"K's 9th bit":        func(p *api.Packet) { p.K += 256 },
		"Size 1":             func(p *api.Packet) { p.Size++ },
		"Size -1":            func(p *api.Packet) { p.Size-- },
		"Size's 9th bit":     func(p *api.Packet) { p.Size += 256 },
		"Hops 1":             func(p *api.Packet) { p.Hops++ },
		"Hops -1":            func(p *api.Packet) { p.Hops-- },
		"Hops' 9th bit":      func(p *api.Packet) { p.Hops += 256 },
		"the lowest bit":     func(p *api.Packet) { p.Row.Vec = []uint64{1} },
		"the word's highest": func(p *api.Packet) { p.Row.Vec = []uint64{1 << 63} },
		"a second word":      func(p *api.Packet) { p.Row.Vec = []uint64{0, 1} },
		"a third word":       func(p *api.Packet) { p.Row.Vec = []uint64{0, 0, 1} },
		"a byte":             func(p *api.Packet) { p.Row.Data += "d" },
		"a byte of 0":        func(p *api.Packet) { p.Row.Data += "\x00" },
	}
}

// badPackets gives packets that chapter 7 doesn't take, each by one thing.
func badPackets() map[string]api.Packet {
	out := map[string]api.Packet{"a zero packet": {}}
	put := func(name string, do func(p *api.Packet)) {
		p := one()
		do(&p)
		out[name] = p
	}
	for _, n := range []int{-1, math.MinInt, maxInc + 1, math.MaxInt} {
		put(fmt.Sprintf("Object %d", n), func(p *api.Packet) { p.Object = n })
	}
	for _, n := range []int{-1, math.MinInt, 5, math.MaxInt} {
		put(fmt.Sprintf("Len %d", n), func(p *api.Packet) { p.Len = n })
	}
	for _, n := range []int{-1, 0, 1, 65, 129, 256 + 2, math.MinInt, math.MaxInt} {
		put(fmt.Sprintf("K %d", n), func(p *api.Packet) { p.K = n })
	}
	for _, n := range []int{-1, 0, 1, 3, 65, 256 + 2, math.MinInt, math.MaxInt} {
		put(fmt.Sprintf("Size %d", n), func(p *api.Packet) { p.Size = n })
	}
	for _, n := range []int{-1, 16, 256 + 4, math.MinInt, math.MaxInt} {
		put(fmt.Sprintf("Hops %d", n), func(p *api.Packet) { p.Hops = n })
	}
	for _, vec := range [][]uint64{nil, {0}, {4}, {7}, {3, 0}, {0, 1}} {
		put(fmt.Sprintf("the row %x", vec), func(p *api.Packet) { p.Row.Vec = vec })
	}
	for _, text := range []string{"", "a", "abc", "\u00e4b"} {
		put(fmt.Sprintf("Data %q", text), func(p *api.Packet) { p.Row.Data = text })
	}
	return out
}

// wrong gives frames that part from a right one by one thing that Check doesn't take, and what that is.
func wrong() map[string]api.Frame {
	out := map[string]api.Frame{"nothing": {}}
	for kind, base := range map[string]api.Frame{"hello": hello(3, 5), "data": data(3, 5, one())} {
		put := func(name string, do func(f *api.Frame)) { out[kind+" and "+name] = with(base, do) }
		for _, n := range []int{0, -1, -2, 3, 4, 255, 256 + 1, 256 + 2, 1<<32 + 1, 1<<32 + 2, math.MinInt, math.MinInt + 1, math.MinInt + 2, math.MaxInt} {
			put(fmt.Sprintf("Kind %d", n), func(f *api.Frame) { f.Kind = n })
		}
		for _, n := range []int{-1, -8, -256, math.MinInt, 8, 9, 16, 255, 256, 256 + 3, 1 << 32, 1<<32 + 3, math.MaxInt} {
			put(fmt.Sprintf("From %d", n), func(f *api.Frame) { f.From = n })
		}
		for _, n := range []int{-1, -2, -1 << 31, -1 << 32, math.MinInt, maxInc + 1, maxInc + 2, 1 << 33, 1<<40 + 5, 1 << 62, math.MaxInt} {
			put(fmt.Sprintf("Inc %d", n), func(f *api.Frame) { f.Inc = n })
		}
	}
	for name, do := range parts() {
		out["hello with "+name] = with(hello(3, 5), func(f *api.Frame) { do(&f.Packet) })
	}
	out["hello with a packet"] = api.Frame{Kind: api.FrameHello, From: 3, Inc: 5, Packet: one()}
	for name, p := range badPackets() {
		out["data with "+name] = data(3, 5, p)
	}
	out["all at once"] = api.Frame{Kind: 3, From: 8, Inc: -1, Packet: api.Packet{K: -1}}
	return out
}

func TestCheck(t *testing.T) {
	for _, f := range append(right(), zeros()...) {
		if err := frame.Check(f); err != api.OK {
			t.Errorf("Check(%#v): %d, not OK", f, err)
		}
	}
	for name, f := range wrong() {
		if err := frame.Check(f); err != api.ErrArg {
			t.Errorf("Check of %s: %d, not ErrArg", name, err)
		}
	}
}

// All kinds and all senders near their edges, with a zero packet and with a right one.
func TestCheckKinds(t *testing.T) {
	for kind := -3; kind <= 300; kind++ {
		for from := -3; from <= 300; from++ {
			for _, p := range []api.Packet{{}, one()} {
				want := api.ErrArg
				if from >= 0 && from <= 7 && (kind == 1 && p.K == 0 || kind == 2 && p.K > 0) {
					want = api.OK
				}
				f := api.Frame{Kind: kind, From: from, Inc: 5, Packet: p}
				if err := frame.Check(f); err != want {
					t.Errorf("Check(%#v): %d, not %d", f, err, want)
				}
			}
		}
	}
}

func TestEncode(t *testing.T) {
	for _, c := range []struct {
		f    api.Frame
		want string
	}{
		{hello(0, 0), "\x01\x00\x00\x00\x00\x00"},
		{hello(7, maxInc), "\x01\x07\xff\xff\xff\xff"},
		{hello(1, 0x01020304), "\x01\x01\x01\x02\x03\x04"},
		{data(0, 258, one()), "\x02\x00\x00\x00\x01\x02\x00\x00\x00\x01\x00\x00\x00\x03\x02\x02\x04\x00\x00\x00\x00\x00\x00\x00\x03ab"},
		{
			data(6, 0xf1f2f3f4, api.Packet{Object: 0x01020304, Len: 3, K: 65, Size: 2, Hops: 15, Row: api.Row{Vec: []uint64{5, 1}, Data: "\x00\xff"}}),
			"\x02\x06\xf1\xf2\xf3\xf4\x01\x02\x03\x04\x00\x00\x00\x03\x41\x02\x0f\x00\x00\x00\x00\x00\x00\x00\x05\x00\x00\x00\x00\x00\x00\x00\x01\x00\xff",
		},
	} {
		want := sealed(t, c.want)
		if got, err := frame.Encode(c.f); got != want || err != api.OK {
			t.Errorf("Encode(%#v): %q %d, not %q", c.f, got, err, want)
		}
		if got, err := frame.Decode(want); !equal(got, c.f) || err != api.OK {
			t.Errorf("Decode(%q): %#v %d, not %#v", want, got, err, c.f)
		}
	}
	for _, f := range append(right(), zeros()...) {
		if got, err := frame.Encode(f); got != told(t, f) || err != api.OK {
			t.Errorf("Encode(%#v): %q %d, not %q", f, got, err, told(t, f))
		}
	}
}

func TestEncodeWrong(t *testing.T) {
	for name, f := range wrong() {
		if got, err := frame.Encode(f); got != "" || err != api.ErrArg {
			t.Errorf("Encode of %s: %q %d, not ErrArg", name, got, err)
		}
	}
}

// The chapter's example: a hello has 10 bytes; data has those of its packet more.
func TestEncodeLengths(t *testing.T) {
	for _, f := range append(right(), zeros()...) {
		want := 10
		if p := f.Packet; f.Kind == api.FrameData {
			want += 11 + 8*len(p.Row.Vec) + p.Size
		}
		if s, err := frame.Encode(f); len(s) != want || err != api.OK {
			t.Errorf("Encode(%#v): %d bytes, not %d: %d", f, len(s), want, err)
		}
	}
}

// checkDecode fails, unless Decode refuses s by just that error, with nothing beside it.
func checkDecode(t *testing.T, s string, want api.Errno) {
	t.Helper()
	if got, err := frame.Decode(s); err != want || !zero(got) {
		t.Errorf("Decode(%q): %#v %d, not %d", s, got, err, want)
	}
}

// What was encoded is decoded, to the word, and encoded again, to the byte.
func TestDecode(t *testing.T) {
	draw := rand.New(rand.NewPCG(8, 1))
	all := right()
	for range 3000 {
		all = append(all, madeFrame(draw))
	}
	for _, f := range all {
		s, err := frame.Encode(f)
		if err != api.OK {
			t.Fatalf("Encode(%#v): %d", f, err)
		}
		got, err := frame.Decode(s)
		if err != api.OK || !equal(got, f) || !frame.Same(got, f) {
			t.Errorf("Decode(%q): %#v %d, not %#v", s, got, err, f)
		}
		if again, err := frame.Encode(got); again != s || err != api.OK {
			t.Errorf("Encode(%#v): %q %d, not %q", got, again, err, s)
		}
	}
	// Words of 0 of a hello aren't sent.
	for _, f := range zeros() {
		s, _ := frame.Encode(f)
		if got, err := frame.Decode(s); err != api.OK || !equal(got, hello(4, 6)) || !frame.Same(got, f) {
			t.Errorf("Decode(%q): %#v %d, not %#v", s, got, err, f)
		}
	}
}

// Chapter 5's errors come first, whatever the bytes ahead of the sum are.
func TestDecodeSum(t *testing.T) {
	for n := range 4 {
		for _, b := range []string{"\x00", "\x01", "a", "\xff"} {
			checkDecode(t, strings.Repeat(b, n), api.ErrSize)
		}
	}
	for _, s := range []string{
		"abcd",
		"\x00\x00\x00\x01",
		"\x01\x00\x00\x00\x00\x00",
		"\x01\x00\x00\x00\x00\x00\x00\x00\x00\x00",
		"\x01\x08\x00\x00\x00\x00\x00\x00\x00\x00",
		"\x03\x00\x00\x00\x00\x00\x00\x00\x00\x00",
		"\x02\x00\x00\x00\x00\x00\x00\x00\x00\x00",
		strings.Repeat("a", 100),
	} {
		checkDecode(t, s, api.ErrSum)
	}
}

// DOC.md's example: a frame with one bit altered is ErrSum; so is one of which a byte is any other one.
func TestDecodeAltered(t *testing.T) {
	for _, f := range []api.Frame{hello(0, 0), hello(7, maxInc), data(0, 258, one()), data(5, 9, of(128, 64))} {
		s := []byte(told(t, f))
		for i := range s {
			for by := 1; by < 256; by++ {
				s[i] ^= byte(by)
				checkDecode(t, string(s), api.ErrSum)
				s[i] ^= byte(by)
			}
		}
	}
}

// Of each length that a frame may be cut to, and of some that are longer: without a sum of their own, and with one.
func TestDecodeCut(t *testing.T) {
	for _, f := range []api.Frame{hello(0, 0), hello(7, maxInc), data(0, 258, one()), data(5, 9, of(65, 3)), data(5, 9, of(128, 64))} {
		s := told(t, f)
		for n := range len(s) {
			want := api.ErrSum
			if n < 4 {
				want = api.ErrSize
			}
			checkDecode(t, s[:n], want)
		}
		bare := plain(t, f)
		for n := range len(bare) {
			checkDecode(t, sealed(t, bare[:n]), api.ErrSize)
		}
		for _, behind := range []string{"\x00", "x", "\xff", "bucketline", s, strings.Repeat("\x00", 300)} {
			checkDecode(t, s+behind, api.ErrSum)
			checkDecode(t, sealed(t, bare+behind), api.ErrSyntax)
		}
		// A frame sealed twice has a sum behind its body.
		checkDecode(t, sealed(t, s), api.ErrSyntax)
	}
}

// Less than 6 bytes, rightly sealed: ErrSize, even if From is above 7 or Kind is none.
func TestDecodeShort(t *testing.T) {
	for n := range 6 {
		for _, b := range []string{"\x00", "\x01", "\x02", "\x03", "\x08", "a", "\xff"} {
			checkDecode(t, sealed(t, strings.Repeat(b, n)), api.ErrSize)
		}
		checkDecode(t, sealed(t, "\x01\x08\x00\x00\x00"[:min(n, 5)]), api.ErrSize)
		checkDecode(t, sealed(t, "\x03\x00\x00\x00\x00"[:min(n, 5)]), api.ErrSize)
	}
	checkDecode(t, sealed(t, strings.Repeat("\x00", 6)), api.ErrSyntax)
	checkDecode(t, sealed(t, strings.Repeat("\xff", 6)), api.ErrSyntax)
	checkDecode(t, sealed(t, strings.Repeat("\x02", 6)), api.ErrSize)
}

// Every Kind and From that a byte may hold, with a body of none, one that chapter 7 finds too short, one that it takes, and one that it refuses otherwise.
func TestDecodeKinds(t *testing.T) {
	body := plain(t, data(0, 0, one()))[6:]
	for kind := range 256 {
		for from := range 256 {
			head := string([]byte{byte(kind), byte(from)}) + "\x00\x01\x02\x03"
			for _, c := range []struct {
				body        string
				hello, data api.Errno
			}{
				{"", api.OK, api.ErrSize},
				{"x", api.ErrSyntax, api.ErrSize},
				{"\x00", api.ErrSyntax, api.ErrSize},
				{body[:10], api.ErrSyntax, api.ErrSize},
				{body[:11], api.ErrSyntax, api.ErrSize},
				{body[:20], api.ErrSyntax, api.ErrSize},
				{body, api.ErrSyntax, api.OK},
				{body + "x", api.ErrSyntax, api.ErrSyntax},
				{strings.Repeat("\x00", 11), api.ErrSyntax, api.ErrSyntax},
			} {
				s := sealed(t, head+c.body)
				want, wanted := api.ErrSyntax, api.Frame{}
				if kind == 1 && from <= 7 {
					want, wanted = c.hello, hello(from, 0x010203)
				} else if kind == 2 && from <= 7 {
					want, wanted = c.data, data(from, 0x010203, one())
				}
				if want != api.OK {
					checkDecode(t, s, want)
				} else if got, err := frame.Decode(s); err != api.OK || !equal(got, wanted) {
					t.Errorf("Decode(%q): %#v %d, not %#v", s, got, err, wanted)
				}
			}
		}
	}
}

// Of FrameData, chapter 7's error, whatever it is; and ErrSyntax of From ahead of it.
func TestDecodeData(t *testing.T) {
	body := plain(t, data(0, 0, of(65, 3)))[6:]
	for i := range body {
		for by := 1; by < 256; by++ {
			bytes := []byte(body)
			bytes[i] ^= byte(by)
			p, want := packet.Decode(string(bytes))
			got, err := frame.Decode(sealed(t, "\x02\x07\x00\x00\x00\x01"+string(bytes)))
			if err != want || err == api.OK && !equal(got, data(7, 1, p)) || err != api.OK && !zero(got) {
				t.Errorf("Decode with byte %d of the body xored by %d: %#v %d, not %d", i, by, got, err, want)
			}
			checkDecode(t, sealed(t, "\x02\x08\x00\x00\x00\x01"+string(bytes)), api.ErrSyntax)
		}
	}
	for name, digits := range map[string]string{
		"Len of one more": "00000001" + "00000005" + "020204" + "0000000000000003" + "6162",
		"K 0":             "00000001" + "00000000" + "000204" + "0000000000000003" + "6162",
		"K 129":           "00000001" + "00000003" + "810204" + "0000000000000003" + "6162",
		"Size 0":          "00000001" + "00000000" + "020004" + "0000000000000003",
		"Size 65":         "00000001" + "00000003" + "024104" + "0000000000000003" + "6162",
		"Hops 16":         "00000001" + "00000003" + "020210" + "0000000000000003" + "6162",
		"no bit":          "00000001" + "00000003" + "020204" + "0000000000000000" + "6162",
		"bit K":           "00000001" + "00000003" + "020204" + "0000000000000004" + "6162",
		"a byte more":     "00000001" + "00000003" + "020204" + "0000000000000003" + "616263",
	} {
		s := sealed(t, "\x02\x00\x00\x00\x00\x00"+bytesOf(t, digits))
		if got, err := frame.Decode(s); err != api.ErrSyntax || !zero(got) {
			t.Errorf("Decode of %s: %#v %d, not ErrSyntax", name, got, err)
		}
	}
}

// wanted gives what Decode has to answer, each error one after the other as the document lists them.
func wanted(s string) (api.Frame, api.Errno) {
	if len(s) < 4 {
		return api.Frame{}, api.ErrSize
	}
	body, sum := s[:len(s)-4], s[len(s)-4:]
	if fmt.Sprintf("%08x", crc32.ChecksumIEEE([]byte(body))) != hex.EncodeToString([]byte(sum)) {
		return api.Frame{}, api.ErrSum
	}
	if len(body) < 6 {
		return api.Frame{}, api.ErrSize
	}
	if body[1] > 7 || body[0] != 1 && body[0] != 2 {
		return api.Frame{}, api.ErrSyntax
	}
	inc := int(body[2])<<24 + int(body[3])<<16 + int(body[4])<<8 + int(body[5])
	if body[0] == 2 {
		p, err := packet.Decode(body[6:])
		if err != api.OK {
			return api.Frame{}, err
		}
		return data(int(body[1]), inc, p), api.OK
	}
	if len(body) > 6 {
		return api.Frame{}, api.ErrSyntax
	}
	return hello(int(body[1]), inc), api.OK
}

// Made texts, and frames with some bits altered, rightly sealed or not: what is decoded encodes to just that text, and what is refused, by the right error.
func TestDecodeMade(t *testing.T) {
	draw := rand.New(rand.NewPCG(8, 2))
	seen := map[api.Errno]int{}
	for i := range 30000 {
		s := made(draw, draw.IntN(40))
		if i%4 > 0 {
			bytes := []byte(plain(t, madeFrame(draw)))
			for range draw.IntN(4) {
				bytes[draw.IntN(len(bytes))] ^= 1 << draw.IntN(8)
			}
			s = string(bytes[:len(bytes)-draw.IntN(2)*draw.IntN(9)%(len(bytes)+1)])
		}
		if i%5 > 0 {
			s = sealed(t, s)
		}
		f, err := frame.Decode(s)
		want, wantErr := wanted(s)
		if err != wantErr || !equal(f, want) {
			t.Errorf("Decode(%q): %#v %d, not %#v %d", s, f, err, want, wantErr)
		}
		if err == api.OK {
			if again, e := frame.Encode(f); again != s || e != api.OK {
				t.Errorf("Encode(Decode(%q)): %q %d", s, again, e)
			}
		}
		seen[err]++
	}
	for _, err := range []api.Errno{api.OK, api.ErrSize, api.ErrSyntax, api.ErrSum} {
		if seen[err] < 500 {
			t.Errorf("error %d was answered only %d times", err, seen[err])
		}
	}
}

// checkSame fails, unless Same says so of both orders.
func checkSame(t *testing.T, a, b api.Frame, want bool) {
	t.Helper()
	if frame.Same(a, b) != want || frame.Same(b, a) != want {
		t.Errorf("Same(%#v, %#v): not %v both ways", a, b, want)
	}
}

func TestSame(t *testing.T) {
	checkSame(t, api.Frame{}, api.Frame{}, true)
	ways := map[string]func(f *api.Frame){
		"Kind":             func(f *api.Frame) { f.Kind++ },
		"Kind's 9th bit":   func(f *api.Frame) { f.Kind += 256 },
		"Kind's sign":      func(f *api.Frame) { f.Kind = -1 },
		"From":             func(f *api.Frame) { f.From++ },
		"From's 9th bit":   func(f *api.Frame) { f.From += 256 },
		"From's sign":      func(f *api.Frame) { f.From = -1 },
		"Inc":              func(f *api.Frame) { f.Inc++ },
		"Inc's 33rd bit":   func(f *api.Frame) { f.Inc += 1 << 32 },
		"Inc's sign":       func(f *api.Frame) { f.Inc = -1 },
		"Kind and From":    func(f *api.Frame) { f.Kind, f.From = f.From, f.Kind },
		"From and Inc":     func(f *api.Frame) { f.From, f.Inc = f.Inc, f.From },
		"one more, less":   func(f *api.Frame) { f.From, f.Inc = f.From+1, f.Inc-1 },
		"another packet":   func(f *api.Frame) { f.Packet = of(65, 2) },
		"Inc and a packet": func(f *api.Frame) { f.Inc, f.Packet = f.Inc+1, of(65, 2) },
	}
	for name, do := range parts() {
		ways["the packet's "+name] = func(f *api.Frame) { do(&f.Packet) }
	}
	for _, base := range []api.Frame{hello(3, 5), data(3, 5, one()), {Kind: 9, From: -4, Inc: 1 << 40, Packet: of(1, 1)}} {
		checkSame(t, base, base, true)
		checkSame(t, base, with(base, func(f *api.Frame) {}), true)
		checkSame(t, base, api.Frame{}, false)
		for name, do := range ways {
			other := with(base, do)
			if want := equal(base, other); frame.Same(base, other) != want || frame.Same(other, base) != want {
				t.Errorf("Same of %#v and one of another %s: not %v both ways", base, name, want)
			}
			checkSame(t, other, with(other, func(f *api.Frame) {}), true)
		}
	}
	// All fields are compared, were there more of them one day.
	if n := reflect.TypeFor[api.Frame]().NumField(); n != 4 {
		t.Errorf("a frame has %d fields", n)
	}
}

// Words of 0 at the end of a row make no difference, whatever the kind is.
func TestSameWords(t *testing.T) {
	rows := [][][]uint64{
		{nil, {}, {0}, {0, 0}},
		{{3}, {3, 0}, {3, 0, 0}},
		{{0, 3}, {0, 3, 0}},
		{{1 << 63}},
	}
	for _, f := range []api.Frame{{}, hello(3, 5), data(3, 5, one()), {Kind: -7, Packet: one()}} {
		for i, these := range rows {
			for j, those := range rows {
				for _, a := range these {
					for _, b := range those {
						a := with(f, func(f *api.Frame) { f.Packet.Row.Vec = a })
						b := with(f, func(f *api.Frame) { f.Packet.Row.Vec = b })
						checkSame(t, a, b, i == j)
						b.Inc++
						checkSame(t, a, b, false)
					}
				}
			}
		}
	}
}

// Frames that Check refuses are the same too, if all fields are: Same asks for no more.
func TestSameWrong(t *testing.T) {
	all := wrong()
	for name, a := range all {
		for other, b := range all {
			want := slices.Equal(trimmed(a.Packet.Row.Vec), trimmed(b.Packet.Row.Vec)) && slices.Equal(fields(a), fields(b))
			if got := frame.Same(a, b); got != want {
				t.Errorf("Same of %s and %s: %v", name, other, got)
			}
		}
	}
}

func trimmed(v []uint64) []uint64 {
	for len(v) > 0 && v[len(v)-1] == 0 {
		v = v[:len(v)-1]
	}
	return v
}

// shares tells whether two texts have a byte of memory in common.
func shares(a, b string) bool {
	if a == "" || b == "" {
		return false
	}
	from, to := uintptr(unsafe.Pointer(unsafe.StringData(a))), uintptr(unsafe.Pointer(unsafe.StringData(b)))
	return from < to+uintptr(len(b)) && to < from+uintptr(len(a))
}

// R4: what is handed out is new memory, were it one byte.
func TestHandedOut(t *testing.T) {
	for _, f := range []api.Frame{hello(0, 0), data(0, 0, of(1, 1)), data(1, 2, of(2, 3)), data(1, 2, of(65, 1)), data(1, 2, of(128, 64))} {
		texts := []string{f.Packet.Row.Data}
		rows := [][]uint64{f.Packet.Row.Vec}
		for range 2 {
			s, _ := frame.Encode(f)
			texts = append(texts, s)
			for range 2 {
				got, err := frame.Decode(s)
				if err != api.OK {
					t.Fatalf("Decode(%q): %d", s, err)
				}
				texts, rows = append(texts, got.Packet.Row.Data), append(rows, got.Packet.Row.Vec)
			}
		}
		for i, a := range texts {
			for _, b := range texts[:i] {
				if shares(a, b) {
					t.Errorf("%q and %q share memory", a, b)
				}
			}
		}
		want := slices.Clone(f.Packet.Row.Vec)
		for i, a := range rows {
			for _, b := range rows[i+1:] {
				clear(a[:cap(a)])
				if !slices.Equal(b, want) {
					t.Errorf("a row became %x", b)
				}
			}
		}
	}
}

// R4: what is handed in is not changed, not even behind a list's end, and not kept.
func TestHandedIn(t *testing.T) {
	all := []uint64{9, 5, 1, 8}
	text := []byte("-ab-")
	f := data(1, 2, api.Packet{Object: 1, Len: 3, K: 65, Size: 2, Hops: 4, Row: api.Row{Vec: all[1:3], Data: unsafe.String(&text[1], 2)}})
	want := told(t, f)
	s, err := frame.Encode(f)
	frame.Check(f)
	frame.Same(f, f)
	frame.Encode(with(f, func(f *api.Frame) { f.Kind = api.FrameHello }))
	shorter := f
	shorter.Packet.Row.Vec = all[1:2]
	frame.Check(shorter)
	frame.Same(f, shorter)
	if !slices.Equal(all, []uint64{9, 5, 1, 8}) || string(text) != "-ab-" {
		t.Errorf("the row, the text and what lies around them became %d %q", all, text)
	}
	clear(all)
	clear(text)
	if s != want || err != api.OK {
		t.Errorf("what was encoded became %q %d", s, err)
	}
	bytes := []byte(want + "x")
	got, err := frame.Decode(unsafe.String(&bytes[0], len(want)))
	if string(bytes) != want+"x" {
		t.Errorf("%q became %q", want+"x", bytes)
	}
	for i := range bytes {
		bytes[i] = '-'
	}
	if err != api.OK || told(t, got) != want {
		t.Errorf("what was decoded became %#v %d", got, err)
	}
}

// R5: the same is answered again, whatever was asked between.
func TestAgain(t *testing.T) {
	all := right()
	first := make([]string, len(all))
	for i, f := range all {
		first[i], _ = frame.Encode(f)
	}
	for i := len(all) - 1; i >= 0; i-- {
		frame.Encode(api.Frame{})
		frame.Decode("abcd")
		frame.Decode(first[0] + "x")
		frame.Same(all[0], all[i])
		if got, err := frame.Encode(all[i]); got != first[i] || err != api.OK {
			t.Errorf("Encode(%#v): %q %d, and %q ahead", all[i], got, err, first[i])
		}
		if got, err := frame.Decode(first[i]); !equal(got, all[i]) || err != api.OK {
			t.Errorf("Decode(%q): %#v %d", first[i], got, err)
		}
	}
}

// R1: of long rows and texts all calls end soon.
func TestLong(t *testing.T) {
	start := time.Now()
	long := strings.Repeat("d", 1<<24)
	row := make([]uint64, 1<<20)
	row[len(row)-1] = 1
	for kind := range 4 {
		base := api.Frame{Kind: kind, Packet: one()}
		for _, f := range []api.Frame{
			with(base, func(f *api.Frame) { f.Packet.Row.Vec = row }),
			with(base, func(f *api.Frame) { f.Packet.Row.Data = long }),
			with(base, func(f *api.Frame) { f.Packet = api.Packet{Row: api.Row{Vec: row}} }),
			with(base, func(f *api.Frame) { f.Packet = api.Packet{Row: api.Row{Data: long}} }),
		} {
			if s, err := frame.Encode(f); s != "" || err != api.ErrArg || frame.Check(f) != api.ErrArg {
				t.Fatalf("kind %d: %d", kind, err)
			}
			if frame.Same(f, base) || !frame.Same(f, with(f, func(f *api.Frame) {})) {
				t.Errorf("kind %d: long rows or texts are told apart wrongly", kind)
			}
		}
		if _, err := frame.Decode(sealed(t, string([]byte{byte(kind), 0, 0, 0, 0, 0})+long)); err != api.ErrSyntax {
			t.Errorf("kind %d: %d", kind, err)
		}
	}
	if _, err := frame.Decode(long); err != api.ErrSum {
		t.Errorf("%d", err)
	}
	if took := time.Since(start); took > 30*time.Second {
		t.Errorf("took %v", took)
	}
}
