package seen_test

import (
	"encoding/binary"
	"hash/crc32"
	"math"
	"math/rand/v2"
	"slices"
	"strings"
	"testing"
	"unsafe"

	"bucketline/api"
	"bucketline/seen"
)

// The document's limits, by number.
const (
	maxCap  = 256
	maxHops = 15
)

// mosts are of every kind: at the document's edges, around them, and such as would be another one in fewer bits; with the room that each gives.
var mosts = []struct{ most, room int }{
	{math.MinInt, 0}, {math.MinInt + 1, 0}, {-1 << 62, 0}, {-1 << 32, 0}, {-1<<32 + 3, 0}, {-1 << 31, 0}, {-257, 0}, {-256, 0}, {-255, 0}, {-2, 0}, {-1, 0},
	{0, 0}, {1, 1}, {2, 2}, {3, 3}, {4, 4}, {127, 127}, {128, 128}, {129, 129}, {254, 254}, {255, 255}, {256, 256},
	{257, 256}, {258, 256}, {511, 256}, {512, 256}, {1000, 256}, {1 << 16, 256}, {1<<31 - 1, 256}, {1 << 31, 256}, {1<<32 - 1, 256}, {1 << 32, 256}, {1<<32 + 1, 256}, {1 << 62, 256}, {math.MaxInt - 1, 256}, {math.MaxInt, 256},
}

// sendable tells by chapter 7's words whether Check takes p.
func sendable(p api.Packet) bool {
	if p.K < 1 || p.K > 128 || p.Size < 1 || p.Size > 64 {
		return false
	}
	if p.Object < 0 || p.Object > 1<<32-1 || p.Len < 0 || p.Len > p.K*p.Size || p.Hops < 0 || p.Hops > maxHops {
		return false
	}
	if len(p.Row.Vec) != (p.K+63)/64 || len(p.Row.Data) != p.Size {
		return false
	}
	bits := 0
	for i := range 64 * len(p.Row.Vec) {
		if p.Row.Vec[i/64]>>(i%64)&1 == 0 {
			continue
		}
		if i >= p.K {
			return false
		}
		bits++
	}
	return bits > 0
}

// bytesOf gives p with Hops 0 as chapter 7's bytes.
func bytesOf(p api.Packet) []byte {
	b := binary.BigEndian.AppendUint32(nil, uint32(p.Object))
	b = binary.BigEndian.AppendUint32(b, uint32(p.Len))
	b = append(b, byte(p.K), byte(p.Size), 0)
	for _, w := range p.Row.Vec {
		b = binary.BigEndian.AppendUint64(b, w)
	}
	return append(b, p.Row.Data...)
}

// printOf is p's fingerprint by the library's sum, which is chapter 5's.
func printOf(p api.Packet) uint32 {
	if !sendable(p) {
		return 0
	}
	return crc32.ChecksumIEEE(bytesOf(p))
}

// model is a cache, told by the chapter's words: the oldest fingerprint stands first.
type model struct {
	most int
	kept []uint32
}

func modelled(most int) *model {
	switch {
	case most < 0:
		most = 0
	case most > maxCap:
		most = maxCap
	}
	return &model{most: most}
}

func (m *model) has(p api.Packet) bool {
	return slices.Contains(m.kept, printOf(p))
}

func (m *model) fresh(p api.Packet) bool {
	if !sendable(p) || m.has(p) {
		return false
	}
	m.kept = append(m.kept, printOf(p))
	if len(m.kept) > m.most {
		m.kept = m.kept[1:]
	}
	return true
}

// pack gives a packet of 4 blocks of a byte.
func pack(bits uint64, data string) api.Packet {
	return api.Packet{Object: 1, Len: 3, K: 4, Size: 1, Row: api.Row{Vec: []uint64{bits}, Data: data}}
}

// numbered gives another packet for each n.
func numbered(n int) api.Packet {
	return api.Packet{Object: n, Len: 8, K: 4, Size: 2, Row: api.Row{Vec: []uint64{5}, Data: "ab"}}
}

// by gives p as it comes through so many relays.
func by(p api.Packet, hops int) api.Packet {
	p.Hops = hops
	return p
}

// great is a packet at each upper edge.
func great() api.Packet {
	return api.Packet{Object: 1<<32 - 1, Len: 8192, K: 128, Size: 64, Hops: 15, Row: api.Row{Vec: []uint64{1<<64 - 1, 1<<64 - 1}, Data: strings.Repeat("\xff", 64)}}
}

// forged gives p with its last 4 bytes such that its fingerprint is the wanted one: the sum's steps are gone back.
func forged(t *testing.T, p api.Packet, want uint32) api.Packet {
	t.Helper()
	c := ^want
	for range 32 {
		if c>>31 != 0 {
			c = (c^0xEDB88320)<<1 | 1
		} else {
			c <<= 1
		}
	}
	b := bytesOf(p)
	ahead := b[:len(b)-4]
	end := binary.LittleEndian.AppendUint32(nil, c^^crc32.ChecksumIEEE(ahead))
	p.Row.Data = p.Row.Data[:len(p.Row.Data)-4] + string(end)
	if printOf(p) != want || !sendable(p) {
		t.Fatalf("forged %#x, not %#x", printOf(p), want)
	}
	return p
}

// fault is a packet that Check refuses for one reason.
type fault struct {
	name string
	p    api.Packet
}

// faults gives each reason, by packets that are right but for it.
func faults() []fault {
	var l []fault
	spoil := func(name string, p api.Packet, by func(*api.Packet)) {
		p.Row.Vec = slices.Clone(p.Row.Vec)
		by(&p)
		l = append(l, fault{name, p})
	}
	base := numbered(7)
	for _, n := range []int{math.MinInt, -1 << 32, -1, 1 << 32, 1<<32 + 7, 1 << 33, math.MaxInt} {
		spoil("Object", base, func(p *api.Packet) { p.Object = n })
	}
	for _, n := range []int{math.MinInt, -1 << 32, -1, 9, 1 << 32, 1<<32 + 3, math.MaxInt} {
		spoil("Len", base, func(p *api.Packet) { p.Len = n })
	}
	spoil("Len", great(), func(p *api.Packet) { p.Len++ })
	for _, n := range []int{math.MinInt, -1, 0, 129, 256, 260, 1<<32 + 4, math.MaxInt} {
		spoil("K", base, func(p *api.Packet) { p.K = n })
	}
	spoil("K", great(), func(p *api.Packet) { p.K++ })
	for _, n := range []int{math.MinInt, -1, 0, 65, 256, 258, 1<<32 + 2, math.MaxInt} {
		spoil("Size", base, func(p *api.Packet) { p.Size = n })
	}
	spoil("Size", great(), func(p *api.Packet) { p.Size++; p.Row.Data += "x" })
	spoil("Size 0", base, func(p *api.Packet) { p.Size, p.Len, p.Row.Data = 0, 0, "" })
	for _, n := range []int{math.MinInt, -16, -1, 16, 17, 255, 256, 1 << 32, math.MaxInt} {
		spoil("Hops", base, func(p *api.Packet) { p.Hops = n })
		spoil("Hops", great(), func(p *api.Packet) { p.Hops = n })
	}
	spoil("no bit", base, func(p *api.Packet) { p.Row.Vec[0] = 0 })
	spoil("no words", base, func(p *api.Packet) { p.Row.Vec = nil })
	spoil("a word too many", base, func(p *api.Packet) { p.Row.Vec = append(p.Row.Vec, 0) })
	spoil("a word too few", great(), func(p *api.Packet) { p.Row.Vec = p.Row.Vec[:1] })
	spoil("a bit from K on", base, func(p *api.Packet) { p.Row.Vec[0] |= 1 << 4 })
	spoil("the highest bit", base, func(p *api.Packet) { p.Row.Vec[0] |= 1 << 63 })
	spoil("no Data", base, func(p *api.Packet) { p.Row.Data = "" })
	spoil("a byte too few", base, func(p *api.Packet) { p.Row.Data = "a" })
	spoil("a byte too many", base, func(p *api.Packet) { p.Row.Data = "abc" })
	spoil("all of them", base, func(p *api.Packet) { *p = api.Packet{} })
	return l
}

// check holds what a cache tells against the model, twice, as to ask changes nothing.
func check(t *testing.T, name string, c *seen.Cache, m *model, ps ...api.Packet) {
	t.Helper()
	for range 2 {
		if got, want := c.Len(), len(m.kept); got != want {
			t.Errorf("%s: Len is %d, not %d", name, got, want)
		}
		for _, p := range ps {
			if got, want := c.Has(p), m.has(p); got != want {
				t.Errorf("%s: Has(%v) is %t, not %t", name, p, got, want)
			}
		}
	}
}

func fresh(t *testing.T, name string, c *seen.Cache, m *model, p api.Packet) {
	t.Helper()
	if got, want := c.Fresh(p), m.fresh(p); got != want {
		t.Errorf("%s: Fresh(%v) is %t, not %t", name, p, got, want)
	}
	check(t, name, c, m, p)
}

func emptied(t *testing.T, name string, c *seen.Cache, m *model, ps ...api.Packet) {
	t.Helper()
	c.Clear()
	m.kept = nil
	check(t, name, c, m, ps...)
}

// filled gives a cache of that most, and its model, into which that many packets went beyond those there is room for.
func filled(t *testing.T, most, beyond int) (*seen.Cache, *model) {
	t.Helper()
	c, m := seen.New(most), modelled(most)
	for i := range m.most + beyond {
		fresh(t, "filling", c, m, numbered(i))
	}
	return c, m
}

// TestExample is the chapter's.
func TestExample(t *testing.T) {
	c := seen.New(4)
	p := pack(3, "a")
	if !c.Fresh(by(p, 2)) {
		t.Error("at first it is fresh")
	}
	for _, hops := range []int{0, 1, 2, 3, 9, 15} {
		if c.Fresh(by(p, hops)) || !c.Has(by(p, hops)) || c.Len() != 1 {
			t.Errorf("by %d relays it is fresh again", hops)
		}
	}
}

// TestPrint: fixed fingerprints, worked out by another program.
func TestPrint(t *testing.T) {
	for _, c := range []struct {
		p    api.Packet
		want uint32
	}{
		{pack(1, "a"), 0xd49fb830},
		{api.Packet{K: 1, Size: 1, Row: api.Row{Vec: []uint64{1}, Data: "\x00"}}, 0x4ce53963},
		{great(), 0x564b207c},
		{api.Packet{Object: 7, Len: 65, K: 65, Size: 1, Hops: 3, Row: api.Row{Vec: []uint64{0, 1}, Data: "x"}}, 0xe5a39669},
		{api.Packet{Object: 1, Len: 3, K: 2, Size: 2, Hops: 15, Row: api.Row{Vec: []uint64{3}, Data: "ab"}}, 0x834c99ae},
		{api.Packet{}, 0},
	} {
		for range 2 {
			if got := seen.Print(c.p); got != c.want {
				t.Errorf("Print(%v) is %#x, not %#x", c.p, got, c.want)
			}
		}
	}
}

// TestPrintHops: all Hops that may be give what 0 gives, all others 0.
func TestPrintHops(t *testing.T) {
	for _, p := range []api.Packet{pack(1, "a"), numbered(7), great()} {
		want := seen.Print(by(p, 0))
		if want == 0 || want != printOf(p) {
			t.Errorf("with Hops 0: %#x", want)
		}
		for hops := range maxHops + 1 {
			if got := seen.Print(by(p, hops)); got != want {
				t.Errorf("with Hops %d: %#x, not %#x", hops, got, want)
			}
		}
		for _, hops := range []int{math.MinInt, -1 << 32, -256, -16, -2, -1, 16, 17, 31, 255, 256, 257, 1 << 32, 1<<32 + 1, math.MaxInt} {
			if got := seen.Print(by(p, hops)); got != 0 {
				t.Errorf("with Hops %d: %#x", hops, got)
			}
		}
	}
}

// TestPrintFields: packets that differ in one of the other fields have other fingerprints.
func TestPrintFields(t *testing.T) {
	base := api.Packet{Object: 7, Len: 8, K: 66, Size: 3, Row: api.Row{Vec: []uint64{5, 1}, Data: "abc"}}
	at := map[uint32]string{seen.Print(base): "as it was"}
	other := func(name string, by func(*api.Packet)) {
		p := base
		p.Row.Vec = slices.Clone(p.Row.Vec)
		by(&p)
		got := seen.Print(p)
		if got != printOf(p) || got == 0 {
			t.Errorf("%s: %#x, not %#x", name, got, printOf(p))
		}
		if as, is := at[got]; is {
			t.Errorf("%s is as %s", name, as)
		}
		at[got] = name
	}
	for _, n := range []int{0, 6, 8, 7 + 1<<8, 7 + 1<<16, 7 + 1<<24, 7 + 1<<31, 1<<32 - 1} {
		other("Object", func(p *api.Packet) { p.Object = n })
	}
	for _, n := range []int{0, 7, 9, 136, 198} {
		other("Len", func(p *api.Packet) { p.Len = n })
	}
	for _, n := range []int{65, 67, 127, 128} {
		other("K", func(p *api.Packet) { p.K = n })
	}
	for _, n := range []int{1, 2, 4, 64} {
		// Data must be as long as Size says.
		other("Size", func(p *api.Packet) { p.Size, p.Row.Data = n, strings.Repeat("abcd", 16)[:n] })
	}
	for _, i := range []int{0, 1, 2, 31, 32, 63, 64, 65} {
		other("Vec", func(p *api.Packet) { p.Row.Vec[i/64] ^= 1 << (i % 64) })
	}
	for _, data := range []string{"bbc", "acc", "abb", "cba", "\x00\x00\x00", "\xff\xff\xff", "ABC"} {
		other("Data", func(p *api.Packet) { p.Row.Data = data })
	}
}

// TestPrintRefused: of what Check refuses, for each reason.
func TestPrintRefused(t *testing.T) {
	for _, f := range faults() {
		if sendable(f.p) {
			t.Errorf("%s: %v may be sent", f.name, f.p)
		}
		if got := seen.Print(f.p); got != 0 {
			t.Errorf("%s: Print(%v) is %#x", f.name, f.p, got)
		}
	}
}

// whatever gives a packet of whatever shape, that may be sent.
func whatever(r *rand.Rand) api.Packet {
	p := api.Packet{Object: int(r.Uint32()), K: 1 + r.IntN(128), Size: 1 + r.IntN(64), Hops: r.IntN(maxHops + 1)}
	p.Len = r.IntN(p.K*p.Size + 1)
	p.Row.Vec = make([]uint64, (p.K+63)/64)
	for i := range p.K {
		p.Row.Vec[i/64] |= r.Uint64() & 1 << (i % 64)
	}
	at := r.IntN(p.K)
	p.Row.Vec[at/64] |= 1 << (at % 64)
	data := make([]byte, p.Size)
	for i := range data {
		data[i] = byte(r.Uint32())
	}
	p.Row.Data = string(data)
	return p
}

// TestPrintAny: packets of all shapes, and each with one number spoiled.
func TestPrintAny(t *testing.T) {
	r := rand.New(rand.NewPCG(23, 1))
	for range 3000 {
		p := whatever(r)
		if got, want := seen.Print(p), printOf(p); got != want || !sendable(p) {
			t.Fatalf("Print(%v) is %#x, not %#x", p, got, want)
		}
		n := r.IntN(300) - 20
		switch r.IntN(5) {
		case 0:
			p.Object = int(r.Uint64())
		case 1:
			p.Len += n
		case 2:
			p.K = n
		case 3:
			p.Size = n
		default:
			p.Hops = n
		}
		if got, want := seen.Print(p), printOf(p); got != want {
			t.Fatalf("Print(%v) is %#x, not %#x", p, got, want)
		}
	}
}

// TestSteps: fixed caches, call by call, by hand. A letter is a packet by no relay (a capital: by 9); "0" is one that Check refuses; "?" and a letter asks Has; "!" clears.
func TestSteps(t *testing.T) {
	type step struct {
		call string
		want bool
		len  int
	}
	for _, c := range []struct {
		name  string
		most  int
		steps []step
	}{
		{"of 0", 0, []step{{"a", true, 0}, {"a", true, 0}, {"A", true, 0}, {"?a", false, 0}, {"0", false, 0}, {"b", true, 0}, {"a", true, 0}, {"!", false, 0}, {"a", true, 0}, {"?a", false, 0}}},
		{"below 0", -1, []step{{"a", true, 0}, {"a", true, 0}, {"?a", false, 0}, {"0", false, 0}, {"!", false, 0}, {"a", true, 0}}},
		{"of 1", 1, []step{{"?a", false, 0}, {"a", true, 1}, {"a", false, 1}, {"A", false, 1}, {"?A", true, 1}, {"b", true, 1}, {"?a", false, 1}, {"?b", true, 1}, {"a", true, 1}, {"b", true, 1}, {"b", false, 1}, {"0", false, 1}, {"?b", true, 1}}},
		{"the oldest goes", 3, []step{{"a", true, 1}, {"b", true, 2}, {"c", true, 3}, {"d", true, 3}, {"?a", false, 3}, {"?b", true, 3}, {"?c", true, 3}, {"?d", true, 3}, {"a", true, 3}, {"?b", false, 3}, {"b", true, 3}, {"?c", false, 3}, {"?d", true, 3}, {"?a", true, 3}}},
		{"one that comes again is as old as it was", 3, []step{{"a", true, 1}, {"b", true, 2}, {"c", true, 3}, {"a", false, 3}, {"A", false, 3}, {"?a", true, 3}, {"d", true, 3}, {"?a", false, 3}, {"b", false, 3}, {"e", true, 3}, {"?b", false, 3}, {"?c", true, 3}, {"a", true, 3}, {"?c", false, 3}}},
		{"one that is gone is the newest when it comes", 2, []step{{"a", true, 1}, {"b", true, 2}, {"c", true, 2}, {"a", true, 2}, {"d", true, 2}, {"?c", false, 2}, {"?a", true, 2}, {"?d", true, 2}, {"e", true, 2}, {"?a", false, 2}}},
		{"what is refused takes no room", 2, []step{{"0", false, 0}, {"0", false, 0}, {"?0", false, 0}, {"a", true, 1}, {"0", false, 1}, {"b", true, 2}, {"0", false, 2}, {"?a", true, 2}, {"?b", true, 2}, {"?0", false, 2}}},
		{"by other relays", 2, []step{{"A", true, 1}, {"a", false, 1}, {"B", true, 2}, {"c", true, 2}, {"a", true, 2}, {"?A", true, 2}, {"?B", false, 2}, {"C", false, 2}}},
		{"clear", 2, []step{{"!", false, 0}, {"a", true, 1}, {"b", true, 2}, {"!", false, 0}, {"?a", false, 0}, {"?b", false, 0}, {"b", true, 1}, {"c", true, 2}, {"d", true, 2}, {"?b", false, 2}, {"?c", true, 2}, {"!", false, 0}, {"!", false, 0}, {"d", true, 1}}},
	} {
		cache := seen.New(c.most)
		if cache.Len() != 0 {
			t.Errorf("%s: a new one has %d", c.name, cache.Len())
		}
		for i, s := range c.steps {
			if got := did(cache, s.call); got != s.want || cache.Len() != s.len {
				t.Errorf("%s, step %d (%s): %t, Len %d, not %v", c.name, i, s.call, got, cache.Len(), s)
			}
		}
	}
}

// lettered gives the packet of a letter.
func lettered(letter byte) api.Packet {
	switch {
	case letter == '0':
		return api.Packet{}
	case letter < 'a':
		return by(lettered(letter-'A'+'a'), 9)
	}
	return pack(5, string(letter))
}

func did(c *seen.Cache, call string) bool {
	switch call[0] {
	case '?':
		return c.Has(lettered(call[1]))
	case '!':
		c.Clear()
		return false
	}
	return c.Fresh(lettered(call[0]))
}

// TestNew: room for as many as the bound says and no more, at its edges and far beyond them, at first and behind Clear.
func TestNew(t *testing.T) {
	for _, c := range mosts {
		cache := seen.New(c.most)
		for range 2 {
			if cache.Len() != 0 || cache.Has(numbered(0)) {
				t.Fatalf("most %d: a new one has %d", c.most, cache.Len())
			}
			for i := range 300 {
				if !cache.Fresh(numbered(i)) || cache.Len() != min(i+1, c.room) {
					t.Fatalf("most %d: behind %d Len is %d", c.most, i, cache.Len())
				}
			}
			for i := range 300 {
				if got := cache.Has(numbered(i)); got != (i >= 300-c.room) {
					t.Fatalf("most %d: Has %d is %t", c.most, i, got)
				}
			}
			cache.Clear()
		}
	}
}

// TestEachMost: every bound from a bit below 0 to a bit beyond MaxCap: the last for which there is room, the first for which there is none, and the one that went for it.
func TestEachMost(t *testing.T) {
	for most := -3; most <= maxCap+3; most++ {
		c, m := filled(t, most, 0)
		check(t, "full", c, m, numbered(0), numbered(m.most-1), numbered(m.most))
		fresh(t, "one more", c, m, numbered(m.most))
		check(t, "one more", c, m, numbered(0), numbered(1), numbered(m.most))
		fresh(t, "again", c, m, numbered(0))
		check(t, "again", c, m, numbered(0), numbered(1), numbered(2), numbered(m.most))
		if t.Failed() {
			t.Fatalf("most %d", most)
		}
	}
}

// TestFreshAgain: what is kept is not fresh, by whatever relays, and each stays as old as it was, in whatever order they come again.
func TestFreshAgain(t *testing.T) {
	for _, most := range []int{1, 2, 3, 8, 255, 256, 300} {
		c, m := filled(t, most, 2)
		for i := m.most + 1; i >= 2; i-- {
			fresh(t, "again", c, m, by(numbered(i), i%16))
		}
		for i := range m.most {
			fresh(t, "anew", c, m, numbered(1000+i))
			check(t, "anew", c, m, numbered(2+i), numbered(3+i))
		}
		if t.Failed() {
			t.Fatalf("most %d", most)
		}
	}
}

// TestFreshRefused: false for each reason, and nothing is kept, be there room or none.
func TestFreshRefused(t *testing.T) {
	for _, most := range []int{-1, 0, 1, 3, 256} {
		for _, beyond := range []int{0, 2} {
			c, m := filled(t, most, beyond)
			empty, none := seen.New(most), modelled(most)
			for _, f := range faults() {
				if c.Fresh(f.p) || c.Has(f.p) || empty.Fresh(f.p) || empty.Has(f.p) {
					t.Errorf("most %d, %s: %v is taken", most, f.name, f.p)
				}
				fresh(t, f.name, c, m, f.p)
				fresh(t, f.name, empty, none, f.p)
			}
			for i := range m.most + beyond {
				check(t, "behind all", c, m, numbered(i))
			}
			if t.Failed() {
				t.Fatalf("most %d, beyond %d", most, beyond)
			}
		}
	}
}

// TestFreshFields: packets that differ in one field are each fresh.
func TestFreshFields(t *testing.T) {
	c := seen.New(7)
	base := api.Packet{Object: 7, Len: 8, K: 4, Size: 2, Row: api.Row{Vec: []uint64{5}, Data: "ab"}}
	object, length, k, size, vec, data := base, base, base, base, base, base
	object.Object, length.Len, k.K, size.Size, vec.Row.Vec, data.Row.Data = 8, 7, 5, 3, []uint64{7}, "ac"
	size.Row.Data = "abc"
	for i, p := range []api.Packet{base, object, length, k, size, vec, data} {
		if c.Has(p) || !c.Fresh(p) || !c.Has(p) || c.Fresh(by(p, 15)) || c.Len() != i+1 {
			t.Errorf("%d: %v", i, p)
		}
	}
}

// TestManyMore: many more come than there is room for; the last ones are there.
func TestManyMore(t *testing.T) {
	for _, most := range []int{0, 1, 2, 7, 255, 256, 1000} {
		c, m := seen.New(most), modelled(most)
		for i := range 5000 {
			if !c.Fresh(numbered(i)) || c.Len() != min(i+1, m.most) {
				t.Fatalf("most %d, %d: Len is %d", most, i, c.Len())
			}
			if m.most > 0 && (!c.Has(numbered(i)) || c.Fresh(numbered(max(0, i-m.most+1)))) || c.Has(numbered(i-m.most)) {
				t.Fatalf("most %d: behind %d the wrong ones are there", most, i)
			}
		}
		for i := range 5000 {
			if got := c.Has(numbered(i)); got != (i >= 5000-m.most) {
				t.Fatalf("most %d: Has %d is %t", most, i, got)
			}
		}
	}
}

// TestOneFingerprint: two packets of one fingerprint are one to the cache.
func TestOneFingerprint(t *testing.T) {
	one := api.Packet{Object: 1, Len: 9, K: 3, Size: 5, Row: api.Row{Vec: []uint64{1}, Data: "abcde"}}
	two := forged(t, api.Packet{Object: 2, Len: 700, K: 80, Size: 9, Hops: 4, Row: api.Row{Vec: []uint64{6, 1}, Data: "some more"}}, printOf(one))
	if seen.Print(one) != seen.Print(two) {
		t.Fatalf("%#x and %#x", seen.Print(one), seen.Print(two))
	}
	c := seen.New(2)
	if !c.Fresh(one) || !c.Has(two) || c.Fresh(two) || c.Len() != 1 {
		t.Error("the second one is fresh")
	}
}

// TestPrintZero: a packet whose fingerprint is 0 is kept as others are; what Check refuses has that fingerprint then, but is not fresh.
func TestPrintZero(t *testing.T) {
	zero := forged(t, api.Packet{Object: 1, Len: 9, K: 3, Size: 4, Row: api.Row{Vec: []uint64{1}, Data: "abcd"}}, 0)
	if seen.Print(zero) != 0 {
		t.Fatalf("%#x", seen.Print(zero))
	}
	for _, most := range []int{0, 1, 2, 3} {
		c, m := seen.New(most), modelled(most)
		check(t, "empty", c, m, zero, api.Packet{})
		for i := range 5 {
			fresh(t, "zero", c, m, zero)
			fresh(t, "again", c, m, by(zero, 3))
			fresh(t, "refused", c, m, api.Packet{})
			fresh(t, "another", c, m, numbered(i))
			check(t, "behind", c, m, zero, api.Packet{}, by(zero, 16))
		}
		emptied(t, "clear", c, m, zero, api.Packet{})
	}
}

// TestFingerprints: at the ends of their range, and such as differ in one bit, they are each one of their own.
func TestFingerprints(t *testing.T) {
	base := api.Packet{Object: 1, Len: 9, K: 3, Size: 4, Row: api.Row{Vec: []uint64{1}, Data: "abcd"}}
	prints := []uint32{0, 1<<32 - 1, 1<<31 - 1, 1<<32 - 2}
	for i := range 32 {
		prints = append(prints, 1<<i)
	}
	for _, most := range []int{1, 5, len(prints), maxCap} {
		c, m := seen.New(most), modelled(most)
		for range 2 {
			for _, want := range prints {
				p := forged(t, base, want)
				if got := seen.Print(p); got != want {
					t.Errorf("Print is %#x, not %#x", got, want)
				}
				fresh(t, "prints", c, m, p)
			}
		}
	}
}

// TestHas: of what is kept, of what is gone, of what never came, of what Check refuses; to ask changes nothing, however often.
func TestHas(t *testing.T) {
	c, m := filled(t, 4, 3)
	for range 3 {
		for i := range 12 {
			want := i >= 3 && i < 7
			for _, hops := range []int{0, 1, 15} {
				if c.Has(by(numbered(i), hops)) != want {
					t.Errorf("Has %d by %d relays is not %t", i, hops, want)
				}
			}
			for _, hops := range []int{-1, 16} {
				if c.Has(by(numbered(i), hops)) {
					t.Errorf("Has %d by %d relays", i, hops)
				}
			}
		}
		for _, f := range faults() {
			if c.Has(f.p) {
				t.Errorf("%s: %v is there", f.name, f.p)
			}
		}
		check(t, "asked", c, m)
	}
	// Had asking for the oldest made it new, another one would go.
	c.Has(numbered(3))
	fresh(t, "one more", c, m, numbered(7))
	check(t, "one more", c, m, numbered(3), numbered(4), numbered(5), numbered(6), numbered(7))
	// What was asked for and was not there is fresh still.
	fresh(t, "asked for", c, m, numbered(11))
}

// TestClear: of each number that is kept; from there on it does as a new one of that most.
func TestClear(t *testing.T) {
	for _, most := range []int{math.MinInt, -1, 0, 1, 2, 3, 255, 256, 257, math.MaxInt} {
		for _, n := range []int{0, 1, 2, 3, 256, 300} {
			c, m := seen.New(most), modelled(most)
			for i := range n {
				fresh(t, "ahead", c, m, numbered(i))
			}
			for i := range n {
				emptied(t, "clear", c, m, numbered(i))
			}
			emptied(t, "again", c, m)
			anew := seen.New(most)
			for i := m.most + 2; i >= 0; i-- {
				fresh(t, "behind", c, m, numbered(i))
				if !anew.Fresh(numbered(i)) || anew.Len() != c.Len() {
					t.Errorf("Len is %d, of a new one %d", c.Len(), anew.Len())
				}
			}
			for i := range m.most + 3 {
				check(t, "filled again", c, m, numbered(i))
			}
			if t.Failed() {
				t.Fatalf("most %d, n %d", most, n)
			}
		}
	}
}

// TestNil: a cache that is none.
func TestNil(t *testing.T) {
	var c *seen.Cache
	for range 3 {
		for _, p := range []api.Packet{{}, pack(1, "a"), by(pack(1, "a"), 3), great()} {
			if c.Fresh(p) || c.Has(p) || c.Len() != 0 {
				t.Errorf("none tells of %v", p)
			}
		}
		c.Clear()
	}
}

// TestNotMade: a cache that New did not make is as one of no room.
func TestNotMade(t *testing.T) {
	c, m := new(seen.Cache), modelled(0)
	for range 2 {
		fresh(t, "not made", c, m, pack(1, "a"))
		fresh(t, "not made", c, m, pack(1, "a"))
		fresh(t, "not made", c, m, api.Packet{})
		emptied(t, "not made", c, m, pack(1, "a"))
	}
}

// TestEachShortList: all lists of up to 5 calls, on small caches; all packets are asked for at the end.
func TestEachShortList(t *testing.T) {
	calls := []string{"a", "b", "B", "c", "0", "!"}
	var grow func(most int, l []string)
	grow = func(most int, l []string) {
		c, m := seen.New(most), modelled(most)
		for _, call := range l {
			if call == "!" {
				emptied(t, "short", c, m)
			} else {
				fresh(t, "short", c, m, lettered(call[0]))
			}
		}
		check(t, "short", c, m, lettered('a'), lettered('b'), lettered('c'), lettered('0'))
		if t.Failed() {
			t.Fatalf("most %d: %q", most, l)
		}
		if len(l) < 5 {
			for _, call := range calls {
				grow(most, append(l[:len(l):len(l)], call))
			}
		}
	}
	for most := range 4 {
		grow(most, nil)
	}
}

// TestAny: long lists of calls, of few packets and of many.
func TestAny(t *testing.T) {
	r := rand.New(rand.NewPCG(23, 2))
	for range 100 {
		most := r.IntN(12) - 1
		if r.IntN(4) == 0 {
			most = mosts[r.IntN(len(mosts))].most
		}
		c, m := seen.New(most), modelled(most)
		few := 1 + r.IntN(2*m.most+4)
		for range 400 {
			p := by(numbered(r.IntN(few)), r.IntN(maxHops+1))
			switch {
			case r.IntN(200) == 0:
				emptied(t, "any", c, m, p)
			case r.IntN(10) == 0:
				fresh(t, "any", c, m, by(p, []int{-1, 16, math.MaxInt}[r.IntN(3)]))
			case r.IntN(10) == 0:
				fresh(t, "any", c, m, whatever(r))
			case r.IntN(4) == 0:
				check(t, "any", c, m, p)
			default:
				fresh(t, "any", c, m, p)
			}
		}
		for i := range few {
			check(t, "any", c, m, numbered(i))
		}
		if t.Failed() {
			t.Fatalf("most %d, few %d", most, few)
		}
	}
}

// TestHandedIn (R4): what is handed in is not changed, what lies behind its row's end neither, and what becomes of it is not seen.
func TestHandedIn(t *testing.T) {
	vec := []uint64{9, 5, 9}
	data := []byte("-ab-")
	p := api.Packet{Object: 7, Len: 8, K: 4, Size: 2, Hops: 5, Row: api.Row{Vec: vec[1:2], Data: unsafe.String(&data[1], 2)}}
	c := seen.New(2)
	seen.Print(p)
	c.Has(p)
	if !c.Fresh(p) || c.Fresh(p) {
		t.Error("it is fresh once")
	}
	if !slices.Equal(vec, []uint64{9, 5, 9}) || string(data) != "-ab-" || p.Hops != 5 || p.Object != 7 || p.Len != 8 || p.K != 4 || p.Size != 2 || len(p.Row.Vec) != 1 {
		t.Errorf("what was handed in became %v, %v, %q", p, vec, data)
	}
	vec[1] = 6
	copy(data, "-cd-")
	if !c.Has(numbered(7)) || c.Has(p) || !c.Fresh(p) || c.Len() != 2 {
		t.Error("what became of it is seen")
	}
}

// TestAgain (R5): the same calls on another one give the same, whatever is asked between and whatever is done to others, however often they are run.
func TestAgain(t *testing.T) {
	for seed := range uint64(40) {
		var first []bool
		for run := range 5 {
			r := rand.New(rand.NewPCG(23, 100+seed))
			most := 1 + r.IntN(20)
			c, other := seen.New(most), seen.New(most)
			var all []bool
			for i := range 200 {
				p := numbered(r.IntN(2 * most))
				// What is done between is another thing in each run.
				other.Fresh(numbered(i * run))
				for j := range run {
					c.Has(numbered(j))
					c.Len()
				}
				all = append(all, c.Fresh(p), c.Has(p))
			}
			for i := range 2 * most {
				all = append(all, c.Has(numbered(i)))
			}
			if run == 0 {
				first = all
			}
			if !slices.Equal(all, first) {
				t.Fatalf("seed %d: run %d is another one", seed, run)
			}
		}
	}
}

// TestSideBySide: two do not meet, and each keeps its own bound.
func TestSideBySide(t *testing.T) {
	one, ofOne := seen.New(2), modelled(2)
	two, ofTwo := seen.New(5), modelled(5)
	for i := range 60 {
		fresh(t, "one", one, ofOne, numbered(i%7))
		check(t, "two", two, ofTwo, numbered(i%7))
		fresh(t, "two", two, ofTwo, numbered(i%4))
		check(t, "one", one, ofOne, numbered(i%4))
		if i == 30 {
			emptied(t, "one", one, ofOne)
			for j := range 7 {
				check(t, "two", two, ofTwo, numbered(j))
			}
		}
	}
}

// TestLimit: the limits are those that the tests count by.
func TestLimit(t *testing.T) {
	if api.MaxCap != maxCap || api.MaxHops != maxHops {
		t.Error("other limits")
	}
}
