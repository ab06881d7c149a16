package link_test

import (
	"encoding/binary"
	"hash/crc32"
	"math"
	"math/big"
	"math/rand/v2"
	"slices"
	"strings"
	"testing"
	"unsafe"

	"bucketline/api"
	"bucketline/frame"
	"bucketline/link"
)

// The document's limits, by number.
const (
	maxCap  = 256
	maxRate = 1000000
	maxTick = 1 << 20
	maxInc  = 1<<32 - 1
)

// mosts are of every kind: at the document's edges, around them, and such as would be another one in fewer bits; with the frames there is room for, and the tokens of a full bucket.
var mosts = []struct{ queued, room, tokens int }{
	{math.MinInt, 0, 1}, {math.MinInt + 1, 0, 1}, {-1 << 62, 0, 1}, {-1 << 32, 0, 1}, {-1<<32 + 3, 0, 1}, {-1 << 31, 0, 1}, {-257, 0, 1}, {-256, 0, 1}, {-2, 0, 1}, {-1, 0, 1},
	{0, 0, 1}, {1, 1, 1}, {2, 2, 2}, {3, 3, 3}, {127, 127, 127}, {128, 128, 128}, {255, 255, 255}, {256, 256, 256},
	{257, 256, 256}, {258, 256, 256}, {512, 256, 256}, {1000, 256, 256}, {1 << 16, 256, 256}, {1 << 31, 256, 256}, {1 << 32, 256, 256}, {1<<32 + 1, 256, 256}, {1 << 62, 256, 256}, {math.MaxInt - 1, 256, 256}, {math.MaxInt, 256, 256},
}

// rates are of every kind, with the thousandths that each gives.
var rates = []struct {
	rate  float64
	milli int
}{
	{math.NaN(), 0}, {math.Inf(-1), 0}, {-math.MaxFloat64, 0}, {-1000, 0}, {-1, 0}, {-0.001, 0}, {-math.SmallestNonzeroFloat64, 0}, {math.Copysign(0, -1), 0}, {0, 0},
	{math.SmallestNonzeroFloat64, 0}, {0.0009, 0}, {math.Nextafter(0.001, 0), 0}, {0.001, 1}, {0.0015, 1}, {0.002, 2}, {0.3, 299}, {0.5, 500}, {0.999, 998}, {math.Nextafter(1, 0), 999}, {1, 1000}, {1.5, 1500}, {2, 2000}, {100, 100000},
	{255.5, 255500}, {256, 256000}, {999.5, 999500}, {math.Nextafter(1000, 0), 999999}, {1000, maxRate}, {1000.001, maxRate}, {1 << 32, maxRate}, {1 << 63, maxRate}, {math.MaxFloat64, maxRate}, {math.Inf(1), maxRate},
}

// ticks are of every kind.
var ticks = []int{math.MinInt, -1 << 62, -1 << 32, -1<<32 + 3, -maxTick, -2, -1, 0, 1, 2, 3, 255, 256, 257, 999, 1000, 1001, maxTick - 1, maxTick, maxTick + 1, 1<<31 - 1, 1 << 31, 1 << 32, 1<<32 + 1, 1 << 44, 1 << 62, math.MaxInt - 1, math.MaxInt}

// bounded is n, or the bound beyond which it lies.
func bounded(n, least, most int) int {
	switch {
	case n < least:
		return least
	case n > most:
		return most
	}
	return n
}

// milliOf is what chapter 21 says of Milli, by fractions of whole numbers of any size.
func milliOf(rate float64) int {
	switch {
	case math.IsNaN(rate), rate <= 0:
		return 0
	case rate >= 1000:
		return maxRate
	}
	p := new(big.Rat).SetFloat64(rate)
	p.Mul(p, big.NewRat(1000, 1))
	return int(new(big.Int).Quo(p.Num(), p.Denom()).Int64())
}

// right tells by chapter 8's words whether f may be sent.
func right(f api.Frame) bool {
	if f.From < 0 || f.From > 7 || f.Inc < 0 || f.Inc > maxInc {
		return false
	}
	switch f.Kind {
	case 1:
		p := f.Packet
		return p.Object == 0 && p.Len == 0 && p.K == 0 && p.Size == 0 && p.Hops == 0 && p.Row.Data == "" && len(bitsOf(p)) == 0
	case 2:
		return rightPacket(f.Packet)
	}
	return false
}

// rightPacket is what chapter 7 says of Check.
func rightPacket(p api.Packet) bool {
	if p.K < 1 || p.K > 128 || p.Size < 1 || p.Size > 64 {
		return false
	}
	if p.Object < 0 || p.Object > 1<<32-1 || p.Len < 0 || p.Len > p.K*p.Size || p.Hops < 0 || p.Hops > 15 {
		return false
	}
	if len(p.Row.Vec) != (p.K+63)/64 || len(p.Row.Data) != p.Size {
		return false
	}
	bits := bitsOf(p)
	return len(bits) > 0 && bits[len(bits)-1] < p.K
}

// bitsOf gives the bits that are set, rising.
func bitsOf(p api.Packet) []int {
	var l []int
	for i := range 64 * len(p.Row.Vec) {
		if p.Row.Vec[i/64]>>(i%64)&1 != 0 {
			l = append(l, i)
		}
	}
	return l
}

// told gives f, which is right, as chapter 8's bytes, with the library's sum.
func told(f api.Frame) string {
	b := binary.BigEndian.AppendUint32([]byte{byte(f.Kind), byte(f.From)}, uint32(f.Inc))
	if p := f.Packet; f.Kind == 2 {
		b = binary.BigEndian.AppendUint32(b, uint32(p.Object))
		b = binary.BigEndian.AppendUint32(b, uint32(p.Len))
		b = append(b, byte(p.K), byte(p.Size), byte(p.Hops))
		for _, w := range p.Row.Vec {
			b = binary.BigEndian.AppendUint64(b, w)
		}
		b = append(b, p.Row.Data...)
	}
	return string(binary.BigEndian.AppendUint32(b, crc32.ChecksumIEEE(b)))
}

// model is a link, told by the words of chapters 21, 22 and 24.
type model struct {
	milli, full, level, room int
	waiting                  []string
}

func modelled(rate float64, queued int) *model {
	full := 1000 * bounded(queued, 1, maxCap)
	return &model{milli: milliOf(rate), full: full, level: full, room: bounded(queued, 0, maxCap)}
}

func (m *model) send(f api.Frame) api.Errno {
	if !right(f) {
		return api.ErrArg
	}
	if len(m.waiting) == m.room {
		return api.ErrFull
	}
	m.waiting = append(m.waiting, told(f))
	return api.OK
}

func (m *model) tick(n int) {
	m.level = min(m.level+bounded(n, 0, maxTick)*m.milli, m.full)
}

func (m *model) pump() []string {
	var out []string
	for len(m.waiting) > 0 && m.level >= 1000 {
		m.level -= 1000
		out = append(out, m.waiting[0])
		m.waiting = m.waiting[1:]
	}
	return out
}

func (m *model) clear() {
	m.waiting, m.level = nil, m.full
}

// check holds what a link tells against the model, twice, as to ask changes nothing.
func check(t *testing.T, name string, l *link.Link, m *model) {
	t.Helper()
	for range 2 {
		if got, want := l.Queued(), len(m.waiting); got != want {
			t.Errorf("%s: Queued is %d, not %d", name, got, want)
		}
	}
}

func sent(t *testing.T, name string, l *link.Link, m *model, f api.Frame) {
	t.Helper()
	if got, want := l.Send(f), m.send(f); got != want {
		t.Errorf("%s: Send(%v) is %d, not %d", name, f, got, want)
	}
	check(t, name, l, m)
}

func ticked(t *testing.T, name string, l *link.Link, m *model, n int) {
	t.Helper()
	l.Tick(n)
	m.tick(n)
	check(t, name, l, m)
}

func pumped(t *testing.T, name string, l *link.Link, m *model) {
	t.Helper()
	if got, want := l.Pump(), m.pump(); !slices.Equal(got, want) {
		t.Errorf("%s: Pump is %d, %.80q, not %d, %.80q", name, len(got), got, len(want), want)
	}
	check(t, name, l, m)
}

func cleared(t *testing.T, name string, l *link.Link, m *model) {
	t.Helper()
	l.Clear()
	m.clear()
	check(t, name, l, m)
}

// filled sends so many, numbered on from first.
func filled(t *testing.T, name string, l *link.Link, m *model, first, n int) {
	t.Helper()
	for i := range n {
		sent(t, name, l, m, numbered(first+i))
	}
}

// spent fills the queue and pumps until no token is left: the level is seen by what goes alone.
func spent(t *testing.T, name string, l *link.Link, m *model) {
	t.Helper()
	for range maxCap + 2 {
		filled(t, name, l, m, 5000, m.room-len(m.waiting))
		ahead := len(m.waiting)
		pumped(t, name, l, m)
		if len(m.waiting) == ahead {
			return
		}
	}
}

// hello gives a frame without a packet.
func hello(from, inc int) api.Frame {
	return api.Frame{Kind: 1, From: from, Inc: inc}
}

// data gives a frame with that packet.
func data(from, inc int, p api.Packet) api.Frame {
	return api.Frame{Kind: 2, From: from, Inc: inc, Packet: p}
}

// pack gives a packet of 4 blocks of a byte.
func pack(bits uint64, text string) api.Packet {
	return api.Packet{Object: 1, Len: 3, K: 4, Size: 1, Row: api.Row{Vec: []uint64{bits}, Data: text}}
}

// great is a packet at each upper edge.
func great() api.Packet {
	return api.Packet{Object: 1<<32 - 1, Len: 8192, K: 128, Size: 64, Hops: 15, Row: api.Row{Vec: []uint64{1<<64 - 1, 1<<64 - 1}, Data: strings.Repeat("\xff", 64)}}
}

// numbered gives another frame for each n, with a packet and without one by turns.
func numbered(n int) api.Frame {
	if n%2 == 0 {
		return hello(n%8, n)
	}
	return data(n%8, n, pack(uint64(n%15)+1, string(rune('a'+n%26))))
}

// frames gives frames that are right, at the edges of each field.
func frames() []api.Frame {
	l := []api.Frame{hello(0, 0), hello(7, maxInc), data(0, 0, pack(1, "a")), data(7, maxInc, great()), data(3, 2, pack(15, "\x00"))}
	for from := range 8 {
		l = append(l, hello(from, 1), data(from, 1, pack(8, "z")))
	}
	for _, inc := range []int{1, 255, 256, 1 << 16, 1 << 31, maxInc - 1} {
		l = append(l, hello(1, inc), data(1, inc, great()))
	}
	p := great()
	p.K, p.Len, p.Row.Vec = 65, 0, []uint64{0, 1}
	q := great()
	q.K, q.Len, q.Row.Vec = 64, 4096, []uint64{1 << 63}
	least := api.Packet{K: 1, Size: 1, Row: api.Row{Vec: []uint64{1}, Data: "\x00"}}
	return append(l, data(5, 9, p), data(5, 9, q), data(0, 0, least))
}

// fault is a frame that chapter 8 refuses for one reason.
type fault struct {
	name string
	f    api.Frame
}

// faults gives each reason, by frames that are right but for it.
func faults() []fault {
	var l []fault
	spoil := func(name string, f api.Frame, by func(*api.Frame)) {
		f.Packet.Row.Vec = slices.Clone(f.Packet.Row.Vec)
		by(&f)
		l = append(l, fault{name, f})
	}
	for _, f := range []api.Frame{hello(1, 2), data(1, 2, pack(5, "a"))} {
		for _, n := range []int{math.MinInt, -1, 0, 3, 255, 256, 257, 258, 1<<32 + 1, 1<<32 + 2, math.MaxInt} {
			spoil("Kind", f, func(f *api.Frame) { f.Kind = n })
		}
		for _, n := range []int{math.MinInt, -8, -1, 8, 9, 255, 256, 257, 1<<32 + 1, math.MaxInt} {
			spoil("From", f, func(f *api.Frame) { f.From = n })
		}
		for _, n := range []int{math.MinInt, -1 << 32, -1, 1 << 32, 1<<32 + 2, math.MaxInt} {
			spoil("Inc", f, func(f *api.Frame) { f.Inc = n })
		}
	}
	spoil("a hello with a packet", hello(1, 2), func(f *api.Frame) { f.Packet = pack(5, "a") })
	spoil("a hello with Object", hello(1, 2), func(f *api.Frame) { f.Packet.Object = 1 })
	spoil("a hello with Len", hello(1, 2), func(f *api.Frame) { f.Packet.Len = 1 })
	spoil("a hello with K", hello(1, 2), func(f *api.Frame) { f.Packet.K = 1 })
	spoil("a hello with Size", hello(1, 2), func(f *api.Frame) { f.Packet.Size = 1 })
	spoil("a hello with Hops", hello(1, 2), func(f *api.Frame) { f.Packet.Hops = -1 })
	spoil("a hello with a bit", hello(1, 2), func(f *api.Frame) { f.Packet.Row.Vec = []uint64{0, 1} })
	spoil("a hello with Data", hello(1, 2), func(f *api.Frame) { f.Packet.Row.Data = "\x00" })
	spoil("no packet", data(1, 2, pack(5, "a")), func(f *api.Frame) { f.Packet = api.Packet{} })
	base := data(1, 2, pack(5, "a"))
	for _, n := range []int{math.MinInt, -1, 1 << 32, math.MaxInt} {
		spoil("Object", base, func(f *api.Frame) { f.Packet.Object = n })
		spoil("Len", base, func(f *api.Frame) { f.Packet.Len = n })
	}
	for _, n := range []int{math.MinInt, -1, 0, 129, 260, 1<<32 + 4, math.MaxInt} {
		spoil("K", base, func(f *api.Frame) { f.Packet.K = n })
	}
	for _, n := range []int{math.MinInt, -1, 0, 2, 65, 257, 1<<32 + 1, math.MaxInt} {
		spoil("Size", base, func(f *api.Frame) { f.Packet.Size = n })
	}
	for _, n := range []int{math.MinInt, -1, 16, 256, math.MaxInt} {
		spoil("Hops", base, func(f *api.Frame) { f.Packet.Hops = n })
		spoil("Hops", data(7, maxInc, great()), func(f *api.Frame) { f.Packet.Hops = n })
	}
	spoil("Len beyond", base, func(f *api.Frame) { f.Packet.Len = 5 })
	spoil("no bit", base, func(f *api.Frame) { f.Packet.Row.Vec[0] = 0 })
	spoil("no words", base, func(f *api.Frame) { f.Packet.Row.Vec = nil })
	spoil("a word too many", base, func(f *api.Frame) { f.Packet.Row.Vec = append(f.Packet.Row.Vec, 0) })
	spoil("a word too few", data(7, 1, great()), func(f *api.Frame) { f.Packet.Row.Vec = f.Packet.Row.Vec[:1] })
	spoil("a bit from K on", base, func(f *api.Frame) { f.Packet.Row.Vec[0] |= 16 })
	spoil("a byte too few", base, func(f *api.Frame) { f.Packet.Row.Data = "" })
	spoil("a byte too many", base, func(f *api.Frame) { f.Packet.Row.Data = "ab" })
	spoil("nothing at all", base, func(f *api.Frame) { *f = api.Frame{} })
	return l
}

// TestExample is the chapter's: with no rate a queue of 2 lets 2 go, and no more.
func TestExample(t *testing.T) {
	l := link.New(0, 2)
	for i, want := range []api.Errno{api.OK, api.OK, api.ErrFull} {
		if got := l.Send(hello(1, i)); got != want {
			t.Errorf("Send %d is %d", i, got)
		}
	}
	if got := l.Pump(); !slices.Equal(got, []string{told(hello(1, 0)), told(hello(1, 1))}) {
		t.Errorf("%q went", got)
	}
	l.Send(hello(1, 3))
	for range 5 {
		l.Tick(maxTick)
		if got := l.Pump(); len(got) != 0 || l.Queued() != 1 {
			t.Errorf("%q went, too", got)
		}
	}
}

// TestBytes: fixed frames, their bytes worked out by another program.
func TestBytes(t *testing.T) {
	l := link.New(0, 2)
	l.Send(hello(1, 0))
	l.Send(data(1, 258, pack(1, "a")))
	want := []string{
		"\x01\x01\x00\x00\x00\x00\x47\xfe\x5b\xb6",
		"\x02\x01\x00\x00\x01\x02" + "\x00\x00\x00\x01\x00\x00\x00\x03\x04\x01\x00" + "\x00\x00\x00\x00\x00\x00\x00\x01" + "a" + "\x37\x8b\x23\x53",
	}
	if got := l.Pump(); !slices.Equal(got, want) {
		t.Errorf("%q, not %q", got, want)
	}
}

// step is a call: "+" and a letter sends the hello of that incarnation, "t" lets a tick go by, "-" pumps, "!" clears, "x" sends what is refused; what it answers, and how many wait behind it.
type step struct {
	call   string
	went   string // the letters
	err    api.Errno
	queued int
}

func did(l *link.Link, call string) ([]string, api.Errno) {
	switch call[0] {
	case '+':
		return nil, l.Send(hello(2, int(call[1])))
	case 'x':
		return nil, l.Send(api.Frame{})
	case 't':
		l.Tick(1)
	case '-':
		return l.Pump(), api.OK
	case '!':
		l.Clear()
	}
	return nil, api.OK
}

// lettered gives the hellos of that many letters as bytes.
func lettered(s string) []string {
	var out []string
	for _, c := range []byte(s) {
		out = append(out, told(hello(2, int(c))))
	}
	return out
}

// TestSteps: fixed links, call by call, by hand.
func TestSteps(t *testing.T) {
	for _, c := range []struct {
		name   string
		rate   float64
		queued int
		steps  []step
	}{
		{"of none", 1, 0, []step{
			{"-", "", 0, 0}, {"+a", "", 5, 0}, {"x", "", 1, 0}, {"-", "", 0, 0}, {"t", "", 0, 0}, {"+a", "", 5, 0}, {"!", "", 0, 0}, {"+a", "", 5, 0}, {"-", "", 0, 0},
		}},
		{"of one", 0.5, 1, []step{
			{"+a", "", 0, 1}, {"+b", "", 5, 1}, {"x", "", 1, 1}, {"-", "a", 0, 0}, {"+c", "", 0, 1}, {"-", "", 0, 1}, {"t", "", 0, 1}, {"-", "", 0, 1}, {"-", "", 0, 1}, {"t", "", 0, 1}, {"-", "c", 0, 0}, {"-", "", 0, 0},
		}},
		{"an empty pump takes no token", 0, 1, []step{
			{"-", "", 0, 0}, {"-", "", 0, 0}, {"-", "", 0, 0}, {"+a", "", 0, 1}, {"-", "a", 0, 0}, {"+b", "", 0, 1}, {"-", "", 0, 1},
		}},
		{"tokens that are left stay", 0, 3, []step{
			{"+a", "", 0, 1}, {"-", "a", 0, 0}, {"+b", "", 0, 1}, {"-", "b", 0, 0}, {"-", "", 0, 0}, {"+c", "", 0, 1}, {"+d", "", 0, 2}, {"-", "c", 0, 1}, {"-", "", 0, 1}, {"+e", "", 0, 2}, {"-", "", 0, 2}, {"!", "", 0, 0}, {"-", "", 0, 0},
		}},
		{"frames that are left wait in order", 1, 3, []step{
			{"+a", "", 0, 1}, {"+b", "", 0, 2}, {"+c", "", 0, 3}, {"+z", "", 5, 3}, {"-", "abc", 0, 0}, {"+f", "", 0, 1}, {"+d", "", 0, 2}, {"+e", "", 0, 3}, {"-", "", 0, 3}, {"t", "", 0, 3}, {"-", "f", 0, 2}, {"+g", "", 0, 3}, {"t", "", 0, 3}, {"t", "", 0, 3}, {"-", "de", 0, 1}, {"t", "", 0, 1}, {"-", "g", 0, 0},
		}},
		{"a token for a frame that comes later", 1, 2, []step{
			{"+a", "", 0, 1}, {"+b", "", 0, 2}, {"-", "ab", 0, 0}, {"t", "", 0, 0}, {"-", "", 0, 0}, {"+c", "", 0, 1}, {"-", "c", 0, 0}, {"+d", "", 0, 1}, {"-", "", 0, 1},
		}},
		{"no more tokens than it has room for", 1, 2, []step{
			{"t", "", 0, 0}, {"t", "", 0, 0}, {"t", "", 0, 0}, {"+a", "", 0, 1}, {"+b", "", 0, 2}, {"-", "ab", 0, 0}, {"+c", "", 0, 1}, {"-", "", 0, 1}, {"t", "", 0, 1}, {"t", "", 0, 1}, {"t", "", 0, 1}, {"t", "", 0, 1}, {"+d", "", 0, 2}, {"-", "cd", 0, 0}, {"+e", "", 0, 1}, {"-", "", 0, 1},
		}},
		{"what is refused costs nothing", 0, 2, []step{
			{"x", "", 1, 0}, {"x", "", 1, 0}, {"x", "", 1, 0}, {"+a", "", 0, 1}, {"x", "", 1, 1}, {"+b", "", 0, 2}, {"+c", "", 5, 2}, {"x", "", 1, 2}, {"+d", "", 5, 2}, {"-", "ab", 0, 0},
		}},
		{"a rate of one and a half", 1.5, 2, []step{
			{"+a", "", 0, 1}, {"+b", "", 0, 2}, {"-", "ab", 0, 0}, {"+c", "", 0, 1}, {"+d", "", 0, 2}, {"t", "", 0, 2}, {"-", "c", 0, 1}, {"t", "", 0, 1}, {"-", "d", 0, 0}, {"+e", "", 0, 1}, {"-", "e", 0, 0}, {"+f", "", 0, 1}, {"-", "", 0, 1},
		}},
		{"clear", 0, 2, []step{
			{"!", "", 0, 0}, {"+a", "", 0, 1}, {"!", "", 0, 0}, {"-", "", 0, 0}, {"+b", "", 0, 1}, {"+c", "", 0, 2}, {"-", "bc", 0, 0}, {"+d", "", 0, 1}, {"-", "", 0, 1}, {"!", "", 0, 0}, {"-", "", 0, 0}, {"+e", "", 0, 1}, {"+f", "", 0, 2}, {"+g", "", 5, 2}, {"-", "ef", 0, 0}, {"+h", "", 0, 1}, {"-", "", 0, 1},
		}},
	} {
		l := link.New(c.rate, c.queued)
		if l.Queued() != 0 {
			t.Errorf("%s: of a new one Queued is %d", c.name, l.Queued())
		}
		for i, s := range c.steps {
			went, err := did(l, s.call)
			if !slices.Equal(went, lettered(s.went)) || err != s.err || l.Queued() != s.queued {
				t.Errorf("%s, step %d: %q, %d, Queued %d, not %v", c.name, i, went, err, l.Queued(), s)
			}
		}
	}
}

// TestNewQueued: room and tokens at each kind of queued, at first and behind Clear.
func TestNewQueued(t *testing.T) {
	for _, c := range mosts {
		l := link.New(0.25, c.queued)
		for range 2 {
			if got := l.Pump(); len(got) != 0 || l.Queued() != 0 {
				t.Fatalf("queued %d: a new one tells %q, %d", c.queued, got, l.Queued())
			}
			for i := range c.room + 3 {
				want := api.OK
				if i >= c.room {
					want = api.ErrFull
				}
				if got := l.Send(numbered(i)); got != want || l.Queued() != min(i+1, c.room) {
					t.Fatalf("queued %d: Send %d is %d, Queued %d", c.queued, i, got, l.Queued())
				}
			}
			if got := l.Pump(); len(got) != c.room || l.Queued() != 0 {
				t.Fatalf("queued %d: %d went, %d wait", c.queued, len(got), l.Queued())
			}
			l.Clear()
		}
	}
}

// TestNewTokens: a full bucket is seen by what goes one at a time, without a rate; a queue of 0 lets none of it be seen.
func TestNewTokens(t *testing.T) {
	for _, c := range mosts {
		if c.room == 0 {
			continue
		}
		l := link.New(0, c.queued)
		for range 2 {
			for i := range c.tokens + 2 {
				l.Send(numbered(i))
				if got := l.Pump(); (len(got) == 1) != (i < c.tokens) {
					t.Fatalf("queued %d: of frame %d goes %d", c.queued, i, len(got))
				}
			}
			l.Clear()
		}
	}
}

// TestNewRate: how many go behind each number of ticks, from an empty bucket on, at each kind of rate.
func TestNewRate(t *testing.T) {
	for _, c := range rates {
		if got := milliOf(c.rate); got != c.milli {
			t.Fatalf("the model's Milli(%v) is %d", c.rate, got)
		}
		for _, queued := range []int{1, 2, 256, 300} {
			for _, n := range ticks {
				l := link.New(c.rate, queued)
				room := min(queued, maxCap)
				for i := range room {
					l.Send(numbered(i))
				}
				l.Pump()
				l.Tick(n)
				for i := range room {
					l.Send(numbered(i))
				}
				want := min(bounded(n, 0, maxTick)*c.milli/1000, room)
				if got := len(l.Pump()); got != want || l.Queued() != room-want {
					t.Fatalf("rate %v, queued %d: behind Tick(%d) %d go, not %d", c.rate, queued, n, got, want)
				}
			}
		}
	}
}

// TestNewBoth: each rate with each queued, against the model.
func TestNewBoth(t *testing.T) {
	for _, r := range rates {
		for _, c := range mosts {
			l, m := link.New(r.rate, c.queued), modelled(r.rate, c.queued)
			filled(t, "both", l, m, 0, m.room+1)
			pumped(t, "both", l, m)
			ticked(t, "both", l, m, 3)
			filled(t, "both", l, m, 7, min(m.room+1, 5))
			pumped(t, "both", l, m)
			ticked(t, "both", l, m, 1)
			pumped(t, "both", l, m)
			cleared(t, "both", l, m)
			filled(t, "both", l, m, 9, min(m.room+1, 5))
			pumped(t, "both", l, m)
			if t.Failed() {
				t.Fatalf("rate %v, queued %d", r.rate, c.queued)
			}
		}
	}
}

// TestSend: each frame that is right goes as chapter 8's bytes, by itself and behind all others.
func TestSend(t *testing.T) {
	l, m := link.New(1, maxCap), modelled(1, maxCap)
	for _, f := range frames() {
		sent(t, "by itself", l, m, f)
		if want := []string{told(f)}; !slices.Equal(m.waiting, want) {
			t.Errorf("%v is refused", f)
		}
		pumped(t, "by itself", l, m)
		ticked(t, "by itself", l, m, 1)
	}
	for _, f := range frames() {
		sent(t, "all of them", l, m, f)
	}
	for i, s := range l.Pump() {
		f, err := frame.Decode(s)
		if err != api.OK || !frame.Same(f, frames()[i]) || s != m.waiting[i] {
			t.Errorf("%d: %v, %d of %q", i, f, err, s)
		}
	}
}

// TestSendTwice: the same frame again waits again.
func TestSendTwice(t *testing.T) {
	l, m := link.New(0, 4), modelled(0, 4)
	for _, f := range []api.Frame{hello(1, 2), hello(1, 2), data(1, 2, pack(3, "a")), data(1, 2, pack(3, "a")), hello(1, 2)} {
		sent(t, "twice", l, m, f)
	}
	pumped(t, "twice", l, m)
}

// TestZeroWords: a hello's row of words that are all 0 is as none (R3), as chapter 8 takes it.
func TestZeroWords(t *testing.T) {
	l, m := link.New(0, 4), modelled(0, 4)
	f := hello(3, 4)
	f.Packet.Row.Vec = []uint64{0, 0}
	sent(t, "zero", l, m, f)
	f.Packet.Row.Vec = []uint64{}
	sent(t, "zero", l, m, f)
	if want := told(hello(3, 4)); !slices.Equal(l.Pump(), []string{want, want}) {
		t.Error("other bytes")
	}
}

// TestSendRefused: chapter 8's error, for each reason, and nothing waits more: of an empty link, of one with room, of a full one (chapter 8's error goes first), of one of none, with tokens and without.
func TestSendRefused(t *testing.T) {
	for _, c := range faults() {
		if _, err := frame.Encode(c.f); err != api.ErrArg || right(c.f) {
			t.Fatalf("%s: Encode takes %v", c.name, c.f)
		}
		for _, queued := range []int{-1, 0, 1, 2} {
			for ahead := range 3 {
				l, m := link.New(0, queued), modelled(0, queued)
				filled(t, c.name, l, m, 0, ahead)
				sent(t, c.name, l, m, c.f)
				if l.Send(c.f) != api.ErrArg {
					t.Errorf("%s: no ErrArg", c.name)
				}
				pumped(t, c.name, l, m)
				sent(t, c.name, l, m, c.f)
				pumped(t, c.name, l, m)
				spent(t, c.name, l, m)
				sent(t, c.name, l, m, c.f)
				pumped(t, c.name, l, m)
			}
		}
		if t.Failed() {
			t.FailNow()
		}
	}
}

// TestSendFull: the last for which there is room, the first for which there is none, again and again; none of those that wait is changed, and one that went makes room.
func TestSendFull(t *testing.T) {
	for queued := -2; queued <= maxCap+2; queued++ {
		l, m := link.New(0.5, queued), modelled(0.5, queued)
		for range 3 {
			filled(t, "full", l, m, 0, m.room+3)
			if err := l.Send(hello(1, 1)); err != api.ErrFull {
				t.Fatalf("queued %d: Send is %d", queued, err)
			}
			pumped(t, "full", l, m)
			ticked(t, "full", l, m, 2)
			filled(t, "again", l, m, 1000, m.room+1)
			pumped(t, "one goes", l, m)
			sent(t, "one more", l, m, hello(6, 7))
			sent(t, "none more", l, m, hello(6, 8))
			ticked(t, "all may go", l, m, maxTick)
			pumped(t, "all may go", l, m)
			ticked(t, "all may go", l, m, maxTick)
		}
		if t.Failed() {
			t.Fatalf("queued %d", queued)
		}
	}
}

// TestTick: each number of ticks, at levels from none to full, at each of some rates.
func TestTick(t *testing.T) {
	for _, rate := range []float64{0, 0.001, 0.3, 0.5, 0.999, 1, 1.5, 3, 1000} {
		for _, n := range ticks {
			for used := range 5 {
				l, m := link.New(rate, 4), modelled(rate, 4)
				filled(t, "tick", l, m, 0, used)
				pumped(t, "tick", l, m)
				ticked(t, "tick", l, m, n)
				spent(t, "tick", l, m)
				ticked(t, "again", l, m, n)
				ticked(t, "again", l, m, 1)
				spent(t, "again", l, m)
			}
			if t.Failed() {
				t.Fatalf("rate %v, Tick(%d)", rate, n)
			}
		}
	}
}

// TestPart: ticks that make no whole token let none go, and one more that does lets one go; the part that is left stays, but in a bucket of 1, which is full by the whole one.
func TestPart(t *testing.T) {
	for _, c := range []struct {
		rate   float64
		queued int
		goes   []int // behind which ticks one goes
	}{
		{0.5, 1, []int{2, 4, 6, 8}}, {0.5, 2, []int{2, 4, 6, 8}}, {0.25, 5, []int{4, 8, 12}}, {0.3, 1, []int{4, 8, 12}}, {0.3, 2, []int{4, 7, 11, 14}}, {0.3, 256, []int{4, 7, 11, 14}},
		{0.999, 1, []int{2, 4, 6}}, {0.999, 2, []int{2, 3, 4, 5}}, {0.4, 3, []int{3, 5, 8, 10}}, {0.001, 1, []int{1000, 2000}}, {0.001, 4, []int{1000, 2000}},
	} {
		l := link.New(c.rate, c.queued)
		for range c.queued {
			l.Send(hello(1, 1))
			l.Pump()
		}
		l.Send(hello(1, 2))
		for i := 1; i <= c.goes[len(c.goes)-1]; i++ {
			l.Tick(1)
			want := 0
			if slices.Contains(c.goes, i) {
				want = 1
			}
			if got := l.Pump(); len(got) != want || len(l.Pump()) != 0 || l.Queued() != 1-want {
				t.Fatalf("rate %v, queued %d: behind tick %d %d go", c.rate, c.queued, i, len(got))
			}
			if want == 1 {
				l.Send(hello(1, 2))
			}
		}
	}
}

// TestTickPart: so many ticks in one call are as many calls.
func TestTickPart(t *testing.T) {
	for _, rate := range []float64{0.001, 0.3, 0.7, 1.1} {
		for n := range 40 {
			one, two := link.New(rate, 8), link.New(rate, 8)
			for _, l := range []*link.Link{one, two} {
				for i := range 8 {
					l.Send(numbered(i))
				}
				l.Pump()
				for i := range 8 {
					l.Send(numbered(i))
				}
			}
			one.Tick(n)
			for range n {
				two.Tick(1)
			}
			if a, b := one.Pump(), two.Pump(); !slices.Equal(a, b) {
				t.Errorf("rate %v: %d ticks let %d go, and %d one by one", rate, n, len(a), len(b))
			}
		}
	}
}

// TestPump: each number of frames with each number of tokens: more tokens, fewer, as many; again at once; what is left of either stays.
func TestPump(t *testing.T) {
	for _, queued := range []int{1, 2, 3, 6, 256} {
		for _, tokens := range []int{0, 1, 2, 3, 5, 6, 200, 255, 256} {
			for _, waiting := range []int{0, 1, 2, 3, 5, 6, 200, 255, 256} {
				if tokens > queued || waiting > queued {
					continue
				}
				l, m := link.New(1, queued), modelled(1, queued)
				filled(t, "ahead", l, m, 0, queued)
				pumped(t, "ahead", l, m)
				ticked(t, "ahead", l, m, tokens)
				filled(t, "pump", l, m, 300, waiting)
				pumped(t, "pump", l, m)
				if l.Queued() != max(0, waiting-tokens) {
					t.Errorf("%d wait", l.Queued())
				}
				pumped(t, "at once", l, m)
				pumped(t, "at once", l, m)
				ticked(t, "one more", l, m, 1)
				pumped(t, "one more", l, m)
				spent(t, "all", l, m)
				if t.Failed() {
					t.Fatalf("queued %d, %d tokens, %d frames", queued, tokens, waiting)
				}
			}
		}
	}
}

// TestPumpEmpty: of an empty queue, however often, no token is taken.
func TestPumpEmpty(t *testing.T) {
	for _, queued := range []int{-1, 0, 1, 2, 256} {
		l, m := link.New(0, queued), modelled(0, queued)
		for range 600 {
			pumped(t, "empty", l, m)
		}
		filled(t, "empty", l, m, 0, m.room)
		pumped(t, "all may go", l, m)
		if l.Queued() != 0 {
			t.Errorf("queued %d: %d wait", queued, l.Queued())
		}
	}
}

// TestClear: of a new link, a full one, one whose bucket is empty, and one between; from there on it does as a new one.
func TestClear(t *testing.T) {
	for _, rate := range []float64{math.NaN(), 0, 0.001, 0.5, 1, 1000} {
		for _, queued := range []int{math.MinInt, -1, 0, 1, 2, 3, 256, 257, math.MaxInt} {
			for _, used := range []int{0, 1, 2, 256} {
				for _, waiting := range []int{0, 1, 2, 257} {
					l, m := link.New(rate, queued), modelled(rate, queued)
					filled(t, "ahead", l, m, 0, min(used, m.room))
					pumped(t, "ahead", l, m)
					filled(t, "ahead", l, m, 400, min(waiting, m.room+1))
					cleared(t, "clear", l, m)
					pumped(t, "clear", l, m)
					if waiting == 2 {
						cleared(t, "again", l, m)
					}
					asNew(t, l, link.New(rate, queued))
					if t.Failed() {
						t.Fatalf("rate %v, queued %d, %d used, %d waiting", rate, queued, used, waiting)
					}
				}
			}
		}
	}
}

// asNew holds a link against a new one: room, tokens, rate.
func asNew(t *testing.T, l, anew *link.Link) {
	t.Helper()
	for round := range 3 {
		for i := range maxCap + 1 {
			if a, b := l.Send(numbered(i)), anew.Send(numbered(i)); a != b {
				t.Fatalf("round %d: Send %d is %d, and of a new one %d", round, i, a, b)
			}
		}
		if a, b := l.Pump(), anew.Pump(); !slices.Equal(a, b) || l.Queued() != anew.Queued() {
			t.Fatalf("round %d: %d go, and of a new one %d", round, len(a), len(b))
		}
		l.Tick(3)
		anew.Tick(3)
	}
}

// TestClearPart: the part of a token that is left is gone with Clear: a full bucket has no more.
func TestClearPart(t *testing.T) {
	l, m := link.New(0.3, 2), modelled(0.3, 2)
	filled(t, "part", l, m, 0, 2)
	pumped(t, "part", l, m)
	ticked(t, "part", l, m, 3)
	cleared(t, "part", l, m)
	filled(t, "part", l, m, 4, 2)
	pumped(t, "part", l, m)
	for i := range 8 {
		sent(t, "part", l, m, numbered(i))
		ticked(t, "part", l, m, 1)
		pumped(t, "part", l, m)
	}
}

// TestNil: a link that is none.
func TestNil(t *testing.T) {
	var l *link.Link
	for range 2 {
		for _, f := range frames() {
			if err := l.Send(f); err != api.ErrArg {
				t.Errorf("Send over none is %d", err)
			}
		}
		for _, c := range faults() {
			if err := l.Send(c.f); err != api.ErrArg {
				t.Errorf("%s: Send over none is %d", c.name, err)
			}
		}
		for _, n := range ticks {
			l.Tick(n)
		}
		if got := l.Pump(); len(got) != 0 || l.Queued() != 0 {
			t.Errorf("none tells %q, %d", got, l.Queued())
		}
		l.Clear()
	}
}

// TestNotMade: a link that New did not make is as one of no room.
func TestNotMade(t *testing.T) {
	l, m := new(link.Link), modelled(0, 0)
	for range 2 {
		sent(t, "not made", l, m, hello(1, 1))
		sent(t, "not made", l, m, api.Frame{})
		ticked(t, "not made", l, m, 1)
		pumped(t, "not made", l, m)
		cleared(t, "not made", l, m)
	}
}

// TestEachShortList: all lists of up to 5 calls, on small links.
func TestEachShortList(t *testing.T) {
	calls := "abxt-!"
	var grow func(rate float64, queued int, list string)
	grow = func(rate float64, queued int, list string) {
		l, m := link.New(rate, queued), modelled(rate, queued)
		for _, call := range list {
			switch call {
			case 'a':
				sent(t, "short", l, m, hello(1, 1))
			case 'b':
				sent(t, "short", l, m, data(2, 2, pack(2, "b")))
			case 'x':
				sent(t, "short", l, m, api.Frame{Kind: 2})
			case 't':
				ticked(t, "short", l, m, 1)
			case '-':
				pumped(t, "short", l, m)
			case '!':
				cleared(t, "short", l, m)
			}
		}
		spent(t, "short", l, m)
		if t.Failed() {
			t.Fatalf("rate %v, queued %d: %q", rate, queued, list)
		}
		if len(list) < 5 {
			for i := range calls {
				grow(rate, queued, list+calls[i:i+1])
			}
		}
	}
	for _, queued := range []int{0, 1, 2} {
		for _, rate := range []float64{0, 0.5, 1} {
			grow(rate, queued, "")
		}
	}
}

// anyFrame gives a frame, mostly one that is right.
func anyFrame(r *rand.Rand) api.Frame {
	switch r.IntN(8) {
	case 0:
		l := faults()
		return l[r.IntN(len(l))].f
	case 1:
		l := frames()
		return l[r.IntN(len(l))]
	}
	return numbered(r.IntN(1000))
}

// anyRate gives a rate, mostly a small one.
func anyRate(r *rand.Rand) float64 {
	if r.IntN(4) == 0 {
		return rates[r.IntN(len(rates))].rate
	}
	return 4 * r.Float64()
}

// anyQueued gives a bound, mostly a small one.
func anyQueued(r *rand.Rand) int {
	if r.IntN(4) == 0 {
		return mosts[r.IntN(len(mosts))].queued
	}
	return r.IntN(12) - 1
}

// TestAny: long lists of calls, now more that send, now more that pump.
func TestAny(t *testing.T) {
	r := rand.New(rand.NewPCG(24, 1))
	for range 200 {
		rate, queued := anyRate(r), anyQueued(r)
		l, m := link.New(rate, queued), modelled(rate, queued)
		for range 10 {
			sends := 1 + r.IntN(8)
			for range 40 {
				switch {
				case r.IntN(100) == 0:
					cleared(t, "any", l, m)
				case r.IntN(60) == 0:
					ticked(t, "any", l, m, ticks[r.IntN(len(ticks))])
				case r.IntN(10) < sends:
					sent(t, "any", l, m, anyFrame(r))
				case r.IntN(2) == 0:
					ticked(t, "any", l, m, r.IntN(4))
				default:
					pumped(t, "any", l, m)
				}
			}
		}
		spent(t, "any", l, m)
		if t.Failed() {
			t.Fatalf("rate %v, queued %d", rate, queued)
		}
	}
}

// TestHandedIn (R4): what is handed in is not changed, not behind a list's end either, and what becomes of it behind Send is not seen.
func TestHandedIn(t *testing.T) {
	l := link.New(0, 2)
	words := []uint64{9, 5, 9}
	bytes := []byte("-a-")
	f := data(1, 2, pack(0, ""))
	f.Packet.Row = api.Row{Vec: words[1:2], Data: unsafe.String(&bytes[1], 1)}
	want := told(f)
	for i, err := range []api.Errno{api.OK, api.OK, api.ErrFull} {
		if got := l.Send(f); got != err {
			t.Errorf("Send %d is %d", i, got)
		}
	}
	if !slices.Equal(words, []uint64{9, 5, 9}) || string(bytes) != "-a-" {
		t.Errorf("what was handed in became %d, %q", words, bytes)
	}
	clear(words)
	clear(bytes)
	if got := l.Pump(); !slices.Equal(got, []string{want, want}) {
		t.Errorf("%q, not %q", got, want)
	}
}

// TestHandedOut (R4): no two texts that go share memory, and what is handed back is not touched by what comes later, nor touches it.
func TestHandedOut(t *testing.T) {
	l := link.New(1, 4)
	f := data(1, 2, pack(3, "a"))
	want := told(f)
	at := map[*byte]int{}
	var lists [][]string
	for range 5 {
		for range 4 {
			l.Send(f)
		}
		list := l.Pump()
		for i, s := range list {
			if s != want {
				t.Fatalf("%q, not %q", s, want)
			}
			if other, is := at[unsafe.StringData(s)]; is {
				t.Errorf("%d shares with %d", i, other)
			}
			at[unsafe.StringData(s)] = len(at)
		}
		lists = append(lists, list)
		l.Tick(4)
	}
	clear(unsafe.Slice(unsafe.StringData(lists[0][0]), len(want)))
	clear(lists[1])
	l.Clear()
	for range 4 {
		l.Send(hello(1, 1))
	}
	l.Pump()
	if !slices.Equal(lists[0][1:], []string{want, want, want}) || !slices.Equal(lists[4], []string{want, want, want, want}) {
		t.Errorf("%q", lists)
	}
}

// TestPartHandedOut: a list that went is as it was, when those that waited behind it go.
func TestPartHandedOut(t *testing.T) {
	l := link.New(1, 6)
	for i := range 6 {
		l.Send(numbered(i))
	}
	l.Pump()
	for i := range 6 {
		l.Send(numbered(10 + i))
	}
	l.Tick(2)
	first := l.Pump()
	kept := slices.Clone(first)
	clear(first[len(first):cap(first)])
	l.Tick(2)
	second := l.Pump()
	if !slices.Equal(first, kept) || !slices.Equal(second, []string{told(numbered(12)), told(numbered(13))}) {
		t.Errorf("%q, %q", first, second)
	}
}

// TestAgain (R5): the same calls on another one give the same, whatever is asked between and whatever is done to others.
func TestAgain(t *testing.T) {
	r := rand.New(rand.NewPCG(24, 2))
	for range 100 {
		rate, queued := anyRate(r), r.IntN(6)
		one, two, other := link.New(rate, queued), link.New(rate, queued), link.New(rate+1, queued+1)
		for range 200 {
			other.Send(anyFrame(r))
			other.Tick(r.IntN(3))
			if r.IntN(3) == 0 {
				other.Pump()
			}
			two.Queued()
			call := []string{"+a", "+b", "+c", "t", "-", "x"}[r.IntN(6)]
			if r.IntN(40) == 0 {
				call = "!"
			}
			s, err := did(one, call)
			u, fault := did(two, call)
			if !slices.Equal(s, u) || err != fault || one.Queued() != two.Queued() {
				t.Fatalf("rate %v, queued %d, %q: %q, %d, %d and %q, %d, %d", rate, queued, call, s, err, one.Queued(), u, fault, two.Queued())
			}
		}
	}
}

// TestSideBySide: two do not meet, and each keeps its own bound and rate.
func TestSideBySide(t *testing.T) {
	one, ofOne := link.New(0.5, 2), modelled(0.5, 2)
	two, ofTwo := link.New(1, 3), modelled(1, 3)
	for i := range 60 {
		sent(t, "one", one, ofOne, numbered(i))
		check(t, "two", two, ofTwo)
		sent(t, "two", two, ofTwo, numbered(100+i))
		ticked(t, "one", one, ofOne, 1)
		if i%3 == 0 {
			pumped(t, "one", one, ofOne)
			check(t, "two", two, ofTwo)
		}
		if i%4 == 0 {
			ticked(t, "two", two, ofTwo, 2)
			pumped(t, "two", two, ofTwo)
			check(t, "one", one, ofOne)
		}
		if i == 30 {
			cleared(t, "one", one, ofOne)
			check(t, "two", two, ofTwo)
		}
	}
	spent(t, "one", one, ofOne)
	spent(t, "two", two, ofTwo)
}

// TestLimit: the limits are those that the tests count by.
func TestLimit(t *testing.T) {
	if api.MaxCap != maxCap || api.MaxRate != maxRate || api.MaxTick != maxTick || api.MaxNodes != 8 {
		t.Error("another limit")
	}
}
