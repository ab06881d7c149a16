package relay_test

import (
	"maps"
	"math"
	"math/rand/v2"
	"slices"
	"strings"
	"testing"
	"unsafe"

	"bucketline/api"
	"bucketline/buffer"
	"bucketline/draws"
	"bucketline/gauss"
	"bucketline/packet"
	"bucketline/recode"
	"bucketline/relay"
)

// step is what each draw behind a list is more than the one ahead of it (chapter 11).
const step uint64 = 0x9E3779B97F4A7C15

// behind gives the n-th draw in all, where it is behind the list.
func behind(n int) uint64 { return uint64(n) * step }

// far is how far from 0 the chapter's targets lie.
const far = 1 << 40

// targets are some of every kind: at the document's edges, around them, and such as would be another number in fewer bits.
var targets = []int{
	math.MinInt, math.MinInt + 1, math.MinInt + 3, -1<<62 + 2, -1<<41 + 1, -far - 3, -far - 2, -far - 1, -far, -far + 1, -far + 2, -1<<32 - 2, -1 << 32, -1<<32 + 2, -1 << 31,
	-256, -128, -4, -3, -2, -1, 0, 1, 2, 3, 4, 5, 6, 7, 8, 9, 31, 32, 33, 63, 64, 65, 127, 128, 129, 256, 258,
	1<<31 - 1, 1 << 31, 1<<32 - 1, 1 << 32, 1<<32 + 1, 1<<32 + 2, 1<<32 + 4, far - 2, far - 1, far, far + 1, far + 2, far + 3, 1<<41 + 2, 1<<62 + 3, math.MaxInt - 2, math.MaxInt - 1, math.MaxInt,
}

// numbers are draws of every kind.
var numbers = []uint64{
	0, 1, 2, 3, 4, 5, 6, 7, 63, 64, 65, 127, 128, 129, 255, 256, 257, 1<<31 - 1, 1 << 31, 1<<31 + 1, 1<<32 - 1, 1 << 32, 1<<32 + 1,
	1<<63 - 2, 1<<63 - 1, 1 << 63, 1<<63 + 1, 1<<63 + 2, math.MaxUint64 - 2, math.MaxUint64 - 1, math.MaxUint64, step, 2 * (step >> 1), step >> 3,
}

// with gives p, changed.
func with(p api.Packet, change func(*api.Packet)) api.Packet {
	p.Row.Vec = slices.Clone(p.Row.Vec)
	change(&p)
	return p
}

// blocks gives a packet of just these of k blocks, of object 1.
func blocks(k int, data string, places ...int) api.Packet {
	v := make([]uint64, (k+63)/64)
	for _, i := range places {
		v[i/64] |= 1 << (i % 64)
	}
	return api.Packet{Object: 1, Len: k*len(data) - 1, K: k, Size: len(data), Row: api.Row{Vec: v, Data: data}}
}

// four gives the packet of these of the blocks a, b, c, d.
func four(bits uint64) api.Packet {
	var sum byte
	for i := range 4 {
		if bits>>i&1 == 1 {
			sum ^= "abcd"[i]
		}
	}
	return api.Packet{Object: 1, Len: 3, K: 4, Size: 1, Row: api.Row{Vec: []uint64{bits}, Data: string([]byte{sum})}}
}

// hopped gives p, come by so many relays.
func hopped(p api.Packet, hops int) api.Packet {
	return with(p, func(p *api.Packet) { p.Hops = hops })
}

// same tells whether two packets are alike in all they have, to the last word.
func same(a, b api.Packet) bool {
	return a.Object == b.Object && a.Len == b.Len && a.K == b.K && a.Size == b.Size && a.Hops == b.Hops &&
		slices.Equal(a.Row.Vec, b.Row.Vec) && a.Row.Data == b.Row.Data
}

// rowsOf gives the packets' rows.
func rowsOf(l []api.Packet) []api.Row {
	var out []api.Row
	for _, p := range l {
		out = append(out, p.Row)
	}
	return out
}

// twin is a relay, told by the chapter's words: chapter 17's buffer, and chapter 18's calls with a number by chapter 11's rule.
type twin struct {
	b           *buffer.Buffer
	target, inc int
}

func twinned(most, target int) *twin {
	switch {
	case target < -far:
		target = -far
	case target > far:
		target = far
	}
	return &twin{b: buffer.New(most), target: target}
}

// emit gives what Emit must give by this draw; there is one, unless nothing is kept.
func (w *twin) emit(draw uint64) (api.Packet, bool) {
	l := w.b.All()
	if len(l) == 0 {
		return api.Packet{}, false
	}
	begin := int(draw % uint64(len(l)))
	return recode.Mix(l, recode.Choose(rowsOf(l), begin, w.target))
}

func (w *twin) crash() {
	w.b.Clear()
	w.inc++
}

// check holds what a relay tells of itself against its twin.
func check(t *testing.T, name string, r *relay.Relay, w *twin) {
	t.Helper()
	if got, want := r.Kept(), w.b.Len(); got != want {
		t.Errorf("%s: Kept is %d, not %d", name, got, want)
	}
	if got, want := r.Rank(), gauss.Rank(rowsOf(w.b.All())); got != want {
		t.Errorf("%s: Rank is %d, not %d", name, got, want)
	}
	if got := r.Inc(); got != w.inc {
		t.Errorf("%s: Inc is %d, not %d", name, got, w.inc)
	}
}

// put puts p into both, and holds them against each other.
func put(t *testing.T, name string, r *relay.Relay, w *twin, p api.Packet) bool {
	t.Helper()
	got, want := r.Put(p), w.b.Put(p)
	if got != want {
		t.Errorf("%s: Put of %+v is %t, not %t", name, p, got, want)
	}
	check(t, name, r, w)
	return want
}

// crash crashes both.
func crash(t *testing.T, name string, r *relay.Relay, w *twin) {
	t.Helper()
	r.Crash()
	w.crash()
	check(t, name, r, w)
}

// told holds an answer of Emit against what is wanted.
func told(t *testing.T, name string, got api.Packet, ok bool, want api.Packet, wanted bool) {
	t.Helper()
	if ok != wanted || !same(got, want) {
		t.Errorf("%s: %+v, %t, not %+v, %t", name, got, ok, want, wanted)
	}
	if err := packet.Check(got); ok && err != api.OK {
		t.Errorf("%s: %+v may not be sent: %d", name, got, err)
	}
}

// emit holds one Emit by this draw against the twin's: the draw alone is used, and that only if something is kept.
func emit(t *testing.T, name string, r *relay.Relay, w *twin, draw uint64) (api.Packet, bool) {
	t.Helper()
	d := draws.New([]uint64{draw, 77})
	got, ok := r.Emit(d)
	want, wanted := w.emit(draw)
	told(t, name, got, ok, want, wanted)
	uses := min(w.b.Len(), 1)
	if d.Used() != uses {
		t.Errorf("%s: %d draws are used, not %d", name, d.Used(), uses)
	}
	if next := d.Next(); next != []uint64{draw, 77}[uses] {
		t.Errorf("%s: the next draw is %d", name, next)
	}
	check(t, name, r, w)
	return want, wanted
}

// filled gives a relay with these packets, all of which it must take, and its twin.
func filled(t *testing.T, most, target int, l ...api.Packet) (*relay.Relay, *twin) {
	t.Helper()
	r, w := relay.New(most, target), twinned(most, target)
	check(t, "new", r, w)
	for i, p := range l {
		if !put(t, "filled", r, w, p) {
			t.Fatalf("packet %d of %+v is refused", i, l)
		}
	}
	return r, w
}

// empty holds a relay against one that keeps nothing: no packet, and no draw is used.
func empty(t *testing.T, name string, r *relay.Relay) {
	t.Helper()
	if r.Kept() != 0 || r.Rank() != 0 {
		t.Errorf("%s: Kept is %d, Rank is %d", name, r.Kept(), r.Rank())
	}
	for range 2 {
		d := draws.New([]uint64{5})
		p, ok := r.Emit(d)
		told(t, name, p, ok, api.Packet{}, false)
		if d.Used() != 0 || d.Next() != 5 {
			t.Errorf("%s: a draw is used", name)
		}
		none := draws.New(nil)
		p, ok = r.Emit(none)
		told(t, name, p, ok, api.Packet{}, false)
		if none.Used() != 0 || none.Next() != step {
			t.Errorf("%s: a draw behind the list is used", name)
		}
		p, ok = r.Emit(nil)
		told(t, name, p, ok, api.Packet{}, false)
	}
}

// TestExample: the chapter's: with one packet: that, one relay further, whatever the target and the draw.
func TestExample(t *testing.T) {
	for _, p := range []api.Packet{
		four(1), four(8), four(15), with(four(6), func(p *api.Packet) { p.Object, p.Len = 0, 0 }), with(four(6), func(p *api.Packet) { p.Object, p.Len = 1<<32-1, 4 }),
		blocks(1, "x", 0), blocks(64, strings.Repeat("y", 64), 63), blocks(65, "xyz", 64), blocks(65, "xyz", 0), blocks(128, strings.Repeat("\x00", 64), 0, 64, 127), blocks(128, "z", 3),
	} {
		for hops := range 16 {
			for _, target := range targets {
				r, w := filled(t, 3, target, hopped(p, hops))
				for _, draw := range []uint64{0, 1, 2, math.MaxUint64} {
					d := draws.New([]uint64{draw})
					got, ok := r.Emit(d)
					if want := hopped(p, hops+1); hops < 15 {
						told(t, "one", got, ok, want, true)
					} else {
						told(t, "one", got, ok, api.Packet{}, false)
					}
					if d.Used() != 1 {
						t.Errorf("%d draws are used", d.Used())
					}
					check(t, "one", r, w)
				}
			}
			if t.Failed() {
				t.FailNow()
			}
		}
	}
}

// TestSteps: what is mixed of fixed packets, for each draw that begins with another one.
func TestSteps(t *testing.T) {
	for _, c := range []struct {
		name   string
		target int
		kept   []uint64
		want   []uint64 // by the draw
	}{
		{"two, aimed at 1", 1, []uint64{3, 1}, []uint64{2, 1}},
		{"two, aimed at 2", 2, []uint64{3, 1}, []uint64{3, 1}},
		{"two, aimed at 0", 0, []uint64{3, 1}, []uint64{2, 1}},
		{"two, aimed at -1", -1, []uint64{3, 1}, []uint64{2, 1}},
		{"two, aimed at 3", 3, []uint64{3, 1}, []uint64{3, 1}},
		{"chapter 18's, aimed at 1", 1, []uint64{7, 3, 1}, []uint64{4, 4, 1}},
		{"chapter 18's, aimed at 2", 2, []uint64{7, 3, 1}, []uint64{6, 3, 6}},
		{"chapter 18's, aimed at 3", 3, []uint64{7, 3, 1}, []uint64{7, 3, 6}},
		{"single blocks, aimed at 1", 1, []uint64{4, 1, 8, 2}, []uint64{4, 1, 8, 2}},
		{"single blocks, aimed at 2: the oldest are taken", 2, []uint64{4, 1, 8, 2}, []uint64{5, 5, 12, 6}},
		{"single blocks, aimed at 3", 3, []uint64{4, 1, 8, 2}, []uint64{13, 13, 13, 7}},
		{"single blocks, aimed at 4", 4, []uint64{4, 1, 8, 2}, []uint64{15, 15, 15, 15}},
		{"single blocks, aimed beyond all", math.MaxInt, []uint64{4, 1, 8, 2}, []uint64{15, 15, 15, 15}},
		{"single blocks, aimed below all", math.MinInt, []uint64{4, 1, 8, 2}, []uint64{4, 1, 8, 2}},
	} {
		var l []api.Packet
		for _, bits := range c.kept {
			l = append(l, four(bits))
		}
		for _, most := range []int{len(l), len(l) + 1, 256} {
			r, w := filled(t, most, c.target, l...)
			for round := range 3 {
				for i, bits := range c.want {
					draw := uint64(round*len(l) + i)
					got, ok := r.Emit(draws.New([]uint64{draw}))
					told(t, c.name, got, ok, hopped(four(bits), 1), true)
					emit(t, c.name, r, w, draw)
				}
			}
		}
	}
}

// TestEmpty: no packet and no draw, where none came, none was taken, or all are lost.
func TestEmpty(t *testing.T) {
	for _, most := range []int{math.MinInt, -1, 0, 1, 2, 256, 257, math.MaxInt} {
		for _, target := range targets {
			r := relay.New(most, target)
			empty(t, "new", r)
			r.Put(api.Packet{})
			r.Put(four(0))
			r.Put(four(16))
			empty(t, "none taken", r)
			r.Crash()
			empty(t, "crashed", r)
			r.Put(four(1))
			r.Put(four(6))
			r.Emit(nil)
			if most < 1 {
				empty(t, "no room", r)
			}
			r.Crash()
			empty(t, "all lost", r)
		}
	}
}

// TestMost: room for as many packets as the bound says; more than 128 are never fresh of each other.
func TestMost(t *testing.T) {
	for _, c := range []struct{ most, room int }{
		{math.MinInt, 0}, {math.MinInt + 1, 0}, {-1<<32 + 1, 0}, {-256, 0}, {-1, 0}, {0, 0}, {1, 1}, {2, 2}, {3, 3}, {64, 64}, {127, 127}, {128, 128}, {129, 128},
		{255, 128}, {256, 128}, {257, 128}, {258, 128}, {1<<32 - 1, 128}, {1 << 32, 128}, {1<<32 + 1, 128}, {math.MaxInt - 1, 128}, {math.MaxInt, 128},
	} {
		r, w := relay.New(c.most, 2), twinned(c.most, 2)
		for i := range 128 {
			if got := put(t, "most", r, w, blocks(128, "x", i)); got != (c.room > 0) {
				t.Fatalf("most %d: packet %d is %t", c.most, i, got)
			}
			if want := min(i+1, c.room); r.Kept() != want || r.Rank() != want {
				t.Fatalf("most %d: behind %d, Kept is %d and Rank is %d", c.most, i, r.Kept(), r.Rank())
			}
			emit(t, "most", r, w, uint64(i*i))
		}
		// One that the others make, where all of them are there.
		put(t, "most", r, w, blocks(128, "x", 0, 127))
		emit(t, "most", r, w, math.MaxUint64)
		if t.Failed() {
			t.Fatalf("most %d", c.most)
		}
	}
}

// TestGoes: in a full relay the one of the greatest degree goes, the oldest of these; it is mixed no more.
func TestGoes(t *testing.T) {
	r, w := filled(t, 2, 128, four(1), four(6))
	emit(t, "full", r, w, 0)
	if !put(t, "full", r, w, four(8)) {
		t.Error("8 is refused")
	}
	for draw := range uint64(4) {
		got, ok := r.Emit(draws.New([]uint64{draw}))
		told(t, "6 went", got, ok, hopped(four(9), 1), true)
	}
	// Now both have one block: the older one goes, though it is the lesser, too.
	if !put(t, "full", r, w, four(2)) {
		t.Error("2 is refused")
	}
	for draw := range uint64(4) {
		got, ok := r.Emit(draws.New([]uint64{draw}))
		told(t, "1 went", got, ok, hopped(four(10), 1), true)
	}
}

// TestTargets: each target, at its edges and beyond them, of packets of many degrees.
func TestTargets(t *testing.T) {
	r := rand.New(rand.NewPCG(19, 1))
	for _, n := range []int{1, 2, 3, 7, 20, 40} {
		for range 4 {
			l := drawnList(r, n, 100, 2, 14)
			for _, target := range targets {
				one, w := filled(t, 40, target, l...)
				for i := range n {
					emit(t, "target", one, w, uint64(i))
				}
				if t.Failed() {
					t.Fatalf("target %d", target)
				}
			}
			for target := range 130 {
				one, w := filled(t, 40, target, l...)
				emit(t, "target", one, w, uint64(target))
			}
		}
	}
}

// TestTargetsApart: what is beyond is as the edge; on the way there, each target up to the number of blocks is another one.
func TestTargetsApart(t *testing.T) {
	l := make([]api.Packet, 20)
	for i := range l {
		l[i] = blocks(20, "x", i)
	}
	for _, target := range targets {
		r, _ := filled(t, 20, target, l...)
		got, ok := r.Emit(draws.New(nil))
		degree := recode.Degree([]api.Row{got.Row}, []int{0})
		if want := min(max(target, 1), 20); !ok || degree != want {
			t.Errorf("target %d: degree %d, %t", target, degree, ok)
		}
	}
}

// TestMix: no more than 32 are mixed: the one the draw says, and the oldest others.
func TestMix(t *testing.T) {
	l := make([]api.Packet, 100)
	for i := range l {
		l[i] = blocks(128, "x", i)
	}
	for _, target := range []int{30, 31, 32, 33, 34, 100, 128, far, math.MaxInt} {
		r, w := filled(t, 128, target, l...)
		for i := range 120 {
			begin := i % 100
			places := []int{begin}
			for j := 0; len(places) < min(target, 32); j++ {
				if j != begin {
					places = append(places, j)
				}
			}
			data := string([]byte{"\x00x"[len(places)%2]})
			want := hopped(blocks(128, data, places...), 1)
			got, ok := r.Emit(draws.New([]uint64{uint64(i)}))
			told(t, "many", got, ok, want, true)
			emit(t, "many", r, w, uint64(i))
		}
	}
}

// TestDraws: draws of every kind, for each number of packets; each time one of them and no more, in their order.
func TestDraws(t *testing.T) {
	for n := 1; n <= 40; n++ {
		l := make([]api.Packet, n)
		for i := range l {
			l[i] = blocks(64, string(rune('A'+i)), i)
		}
		r, w := filled(t, 40, 1, l...)
		d := draws.New(numbers)
		for i := range len(numbers) + 50 {
			draw := behind(i + 1)
			if i < len(numbers) {
				draw = numbers[i]
			}
			got, ok := r.Emit(d)
			told(t, "draws", got, ok, hopped(l[draw%uint64(n)], 1), true)
			if d.Used() != i+1 {
				t.Fatalf("of %d: %d draws are used, not %d", n, d.Used(), i+1)
			}
			emit(t, "draws", r, w, draw)
		}
		// What others took of the draws is gone.
		d = draws.New(numbers)
		d.Next()
		got, ok := r.Emit(d)
		told(t, "second", got, ok, hopped(l[1%n], 1), true)
		d.Next()
		got, ok = r.Emit(d)
		told(t, "fourth", got, ok, hopped(l[3%n], 1), true)
		if t.Failed() {
			t.Fatalf("of %d", n)
		}
	}
}

// TestNilDraws: as of draws from no list, anew, each time.
func TestNilDraws(t *testing.T) {
	for n := 1; n <= 60; n++ {
		l := make([]api.Packet, n)
		for i := range l {
			l[i] = blocks(64, string(rune('A'+i)), i)
		}
		for _, target := range []int{1, 2, 50} {
			r, w := filled(t, 64, target, l...)
			want, wanted := w.emit(step)
			for range 3 {
				got, ok := r.Emit(nil)
				told(t, "nil draws", got, ok, want, wanted)
				if target == 1 && !same(got, hopped(l[step%uint64(n)], 1)) {
					t.Errorf("of %d: %+v", n, got)
				}
				// Other draws between don't count.
				emit(t, "between", r, w, 3)
				check(t, "nil draws", r, w)
			}
		}
	}
}

// TestHops: what is sent came one relay further than the farthest of what is mixed, not of all that is kept.
func TestHops(t *testing.T) {
	for one := range 16 {
		for two := range 16 {
			a, b := hopped(four(1), one), hopped(four(2), two)
			// Aimed at 2, both are mixed; at 1, only the one that the draw says.
			r, w := filled(t, 9, 2, a, b)
			for draw := range uint64(4) {
				got, ok := emit(t, "both", r, w, draw)
				if far := max(one, two); far < 15 {
					told(t, "both", got, ok, hopped(four(3), far+1), true)
				} else {
					told(t, "both", got, ok, api.Packet{}, false)
				}
			}
			r, w = filled(t, 9, 1, a, b)
			for draw := range uint64(4) {
				p := []api.Packet{a, b}[draw%2]
				got, ok := emit(t, "one", r, w, draw)
				if p.Hops < 15 {
					told(t, "one", got, ok, hopped(p, p.Hops+1), true)
				} else {
					told(t, "one", got, ok, api.Packet{}, false)
				}
			}
		}
	}
}

// TestFarthest: a packet that came by 15 relays goes no further, and the draw is used each time; it stays.
func TestFarthest(t *testing.T) {
	r, w := filled(t, 3, 1, hopped(four(1), 15), hopped(four(2), 15))
	d := draws.New([]uint64{0, 1, 2})
	for i := range 10 {
		p, ok := r.Emit(d)
		told(t, "farthest", p, ok, api.Packet{}, false)
		if d.Used() != i+1 {
			t.Errorf("%d draws are used, not %d", d.Used(), i+1)
		}
		check(t, "farthest", r, w)
	}
	if p, ok := r.Emit(nil); ok {
		t.Errorf("%+v", p)
	}
	// It is kept all the same: what it makes is not fresh.
	if put(t, "farthest", r, w, four(3)) || !put(t, "farthest", r, w, four(4)) {
		t.Error("3 is taken, or 4 is not")
	}
	emit(t, "farthest", r, w, 2)
}

// TestChain: from relay to relay a packet comes one further each time; the sixteenth sends none.
func TestChain(t *testing.T) {
	p := four(5)
	for i := range 15 {
		r, _ := filled(t, 4, 1, p)
		next, ok := r.Emit(draws.New(nil))
		if !ok || next.Hops != i+1 || !same(hopped(next, 0), four(5)) {
			t.Fatalf("relay %d: %+v, %t", i, next, ok)
		}
		p = next
	}
	r, _ := filled(t, 4, 1, p)
	if p, ok := r.Emit(draws.New(nil)); ok {
		t.Errorf("the sixteenth: %+v", p)
	}
}

// faults gives, of a packet that is right, such as the buffer refuses, each by one thing alone.
func faults(p api.Packet) map[string]api.Packet {
	return map[string]api.Packet{
		"no packet":       {},
		"Object below 0":  with(p, func(p *api.Packet) { p.Object = -1 }),
		"Object beyond":   with(p, func(p *api.Packet) { p.Object = 1 << 32 }),
		"Len below 0":     with(p, func(p *api.Packet) { p.Len = -1 }),
		"Len beyond":      with(p, func(p *api.Packet) { p.Len = p.K*p.Size + 1 }),
		"K 0":             with(p, func(p *api.Packet) { p.K, p.Len = 0, 0 }),
		"K beyond":        with(p, func(p *api.Packet) { p.K = 129 }),
		"K greatest":      with(p, func(p *api.Packet) { p.K = math.MaxInt }),
		"Size 0":          with(p, func(p *api.Packet) { p.Size, p.Len, p.Row.Data = 0, 0, "" }),
		"Size beyond":     with(p, func(p *api.Packet) { p.Size, p.Row.Data = 65, strings.Repeat("x", 65) }),
		"Hops below 0":    with(p, func(p *api.Packet) { p.Hops = -1 }),
		"Hops beyond":     with(p, func(p *api.Packet) { p.Hops = 16 }),
		"Hops least":      with(p, func(p *api.Packet) { p.Hops = math.MinInt }),
		"Hops greatest":   with(p, func(p *api.Packet) { p.Hops = math.MaxInt }),
		"Vec nil":         with(p, func(p *api.Packet) { p.Row.Vec = nil }),
		"Vec a word more": with(p, func(p *api.Packet) { p.Row.Vec = append(p.Row.Vec, 0) }),
		"Vec of no bit":   with(p, func(p *api.Packet) { clear(p.Row.Vec) }),
		"Data less":       with(p, func(p *api.Packet) { p.Row.Data = p.Row.Data[1:] }),
		"Data more":       with(p, func(p *api.Packet) { p.Row.Data += "x" }),
	}
}

// others gives, of a packet that is right, right ones of which just one of Object, Len, K, Size is another.
func others(p api.Packet) map[string]api.Packet {
	return map[string]api.Packet{
		"Object": with(p, func(p *api.Packet) { p.Object++ }),
		"Len":    with(p, func(p *api.Packet) { p.Len-- }),
		"K":      with(p, func(p *api.Packet) { p.K++ }),
		"Size":   with(p, func(p *api.Packet) { p.Size, p.Row.Data = p.Size+1, p.Row.Data+"x" }),
	}
}

// TestPut: what the buffer takes and what not; what is refused changes nothing that is sent.
func TestPut(t *testing.T) {
	for _, k := range []int{4, 62, 65, 127} {
		p := blocks(k, "xyz", 0, 3)
		for name, bad := range faults(p) {
			if packet.Check(bad) == api.OK {
				t.Fatalf("%s is none", name)
			}
			for _, most := range []int{0, 1, 2, 9} {
				r, w := relay.New(most, 2), twinned(most, 2)
				if put(t, name, r, w, bad) {
					t.Errorf("%s is kept first", name)
				}
				empty(t, name, r)
				for _, q := range []api.Packet{blocks(k, "abc", 1), bad, blocks(k, "def", 1, 2), bad, p, bad, p} {
					put(t, name, r, w, q)
					for draw := range uint64(3) {
						emit(t, name, r, w, draw)
					}
				}
			}
		}
		for name, other := range others(p) {
			if packet.Check(other) != api.OK {
				t.Fatalf("%s is refused for itself", name)
			}
			for _, most := range []int{0, 1, 2, 9} {
				r, w := relay.New(most, 2), twinned(most, 2)
				for i, q := range []api.Packet{p, other, blocks(k, "abc", 1), other, p} {
					got := put(t, name, r, w, q)
					if want := most > 0 && (i%2 == 0 && i < 4 || i == 4 && most == 1); got != want {
						t.Errorf("%s, most %d: packet %d is %t", name, most, i, got)
					}
					emit(t, name, r, w, uint64(i))
				}
				crash(t, name, r, w)
				put(t, name, r, w, other)
				put(t, name, r, w, p)
				emit(t, name, r, w, 1)
			}
		}
	}
}

// TestNotFresh: what the others make is refused, whatever its text and its hops, and does not stand for them.
func TestNotFresh(t *testing.T) {
	r, w := filled(t, 9, 1, hopped(four(3), 4), hopped(four(5), 9))
	for _, bits := range []uint64{3, 5, 6} {
		p := with(four(bits), func(p *api.Packet) { p.Row.Data = "z" })
		if put(t, "not fresh", r, w, p) {
			t.Errorf("%d is taken", bits)
		}
	}
	for draw := range uint64(4) {
		got, ok := emit(t, "not fresh", r, w, draw)
		want := []api.Packet{hopped(four(3), 5), hopped(four(5), 10)}[draw%2]
		told(t, "not fresh", got, ok, want, true)
	}
}

// TestCrash: all is lost and the incarnation is one more, again and again; the bound and the target stay.
func TestCrash(t *testing.T) {
	for _, most := range []int{-1, 0, 1, 2, 3, 256} {
		for _, target := range []int{-1, 1, 2, 3, 4, math.MaxInt} {
			r, w := relay.New(most, target), twinned(most, target)
			for round := range 12 {
				// Now and then nothing is put between two crashes.
				if round%4 != 3 {
					object := 1 + round%3
					for _, bits := range []uint64{7, 1, 6, 8, 2} {
						p := with(four(bits), func(p *api.Packet) { p.Object, p.Hops = object, round })
						put(t, "behind a crash", r, w, p)
						put(t, "behind a crash", r, w, with(p, func(p *api.Packet) { p.Object++ }))
						for draw := range uint64(4) {
							got, ok := emit(t, "behind a crash", r, w, draw)
							if ok && got.Object != object {
								t.Errorf("of object %d, not %d", got.Object, object)
							}
						}
					}
					if want := min(max(most, 0), 4); r.Kept() != want || r.Rank() != want {
						t.Errorf("most %d, round %d: Kept is %d, Rank is %d", most, round, r.Kept(), r.Rank())
					}
				}
				if r.Inc() != round {
					t.Errorf("round %d: Inc is %d", round, r.Inc())
				}
				crash(t, "crash", r, w)
				if r.Inc() != round+1 {
					t.Errorf("round %d: Inc is %d", round, r.Inc())
				}
				empty(t, "crash", r)
			}
		}
	}
}

// TestCrashes: many crashes, of a relay that never kept any.
func TestCrashes(t *testing.T) {
	r := relay.New(2, 1)
	for i := range 70000 {
		if r.Inc() != i {
			t.Fatalf("Inc is %d, not %d", r.Inc(), i)
		}
		r.Crash()
	}
	empty(t, "many crashes", r)
	// Neither what is put nor what is sent, taken or not, makes another incarnation.
	r.Put(four(1))
	r.Put(four(1))
	r.Put(api.Packet{})
	r.Emit(nil)
	r.Emit(draws.New(nil))
	if r.Inc() != 70000 || r.Kept() != 1 || r.Rank() != 1 {
		t.Errorf("Inc is %d, Kept is %d, Rank is %d", r.Inc(), r.Kept(), r.Rank())
	}
}

// TestSentStays (T4): what was sent ahead of a crash is as it was.
func TestSentStays(t *testing.T) {
	r, _ := filled(t, 4, 2, four(1), four(2))
	p, ok := r.Emit(nil)
	r.Crash()
	r.Put(with(four(1), func(p *api.Packet) { p.Row.Data = "z" }))
	r.Emit(nil)
	told(t, "sent", p, ok, hopped(four(3), 1), true)
}

// TestNil (R1): no relay keeps nothing, sends nothing, uses no draw, and has no incarnation but 0; nor has one that New did not make.
func TestNil(t *testing.T) {
	for name, r := range map[string]*relay.Relay{"nil": nil, "not of New": {}} {
		empty(t, name, r)
		for range 3 {
			for _, p := range []api.Packet{{}, four(1), four(0), {K: math.MaxInt, Size: math.MaxInt}} {
				if r.Put(p) {
					t.Errorf("%s: %+v is kept", name, p)
				}
			}
			empty(t, name, r)
			r.Crash()
			empty(t, name, r)
			if r.Inc() != 0 {
				t.Errorf("%s: Inc is %d", name, r.Inc())
			}
		}
	}
}

// TestNew: each call gives a relay of its own, empty, in incarnation 0, whatever it is given.
func TestNew(t *testing.T) {
	for _, most := range []int{math.MinInt, -1, 0, 1, 256, 257, math.MaxInt} {
		for _, target := range targets {
			one, two := relay.New(most, target), relay.New(most, target)
			if one == nil || two == nil || one == two {
				t.Fatalf("most %d, target %d: %p and %p", most, target, one, two)
			}
			if one.Inc() != 0 || one.Kept() != 0 || one.Rank() != 0 {
				t.Fatalf("most %d, target %d: %d, %d, %d", most, target, one.Inc(), one.Kept(), one.Rank())
			}
			one.Put(four(1))
			one.Crash()
			one.Put(four(2))
			empty(t, "the other", two)
			if two.Inc() != 0 {
				t.Errorf("Inc of the other is %d", two.Inc())
			}
			two.Put(four(4))
			two.Crash()
			if want := min(max(most, 0), 1); one.Kept() != want || one.Inc() != 1 {
				t.Errorf("most %d: Kept is %d, Inc is %d", most, one.Kept(), one.Inc())
			}
		}
	}
}

// TestEachShortList: all lists of five steps out of nine: each row of three blocks, one beyond, a crash; behind them, what is sent for each draw.
func TestEachShortList(t *testing.T) {
	for _, c := range []struct{ most, target int }{{2, 1}, {2, 3}, {3, 2}, {4, 1}} {
		for n := range 9 * 9 * 9 * 9 * 9 {
			r, w := relay.New(c.most, c.target), twinned(c.most, c.target)
			rest := n
			for i := range 5 {
				if what := rest % 9; what == 0 {
					crash(t, "short list", r, w)
				} else {
					p := api.Packet{Object: 1, Len: 3, K: 3, Size: 1, Hops: 11 + i, Row: api.Row{Vec: []uint64{uint64(what)}, Data: string(rune('a' + rest%25))}}
					put(t, "short list", r, w, p)
				}
				rest /= 9
			}
			for draw := range uint64(3) {
				emit(t, "short list", r, w, draw)
			}
			if t.Failed() {
				t.Fatalf("most %d, target %d, list %d", c.most, c.target, n)
			}
		}
	}
}

// some gives some of k places, a few mostly.
func some(r *rand.Rand, k int) []int {
	n := 1 + r.IntN(min(k, 6))
	if r.IntN(4) == 0 {
		n = 1 + r.IntN(k)
	}
	return r.Perm(k)[:n]
}

// drawn gives a packet of object 7 as chance has it.
func drawn(r *rand.Rand, k, size, maxHops int) api.Packet {
	text := make([]byte, size)
	for i := range text {
		text[i] = byte(r.Uint64())
	}
	return with(blocks(k, string(text), some(r, k)...), func(p *api.Packet) { p.Object, p.Hops = 7, r.IntN(maxHops+1) })
}

// drawnList gives n such packets, none of which the others make.
func drawnList(r *rand.Rand, n, k, size, maxHops int) []api.Packet {
	b := buffer.New(n)
	for b.Len() < n {
		b.Put(drawn(r, k, size, maxHops))
	}
	return b.All()
}

// number gives a draw as chance has it.
func number(r *rand.Rand) uint64 {
	if r.IntN(3) == 0 {
		return numbers[r.IntN(len(numbers))]
	}
	return r.Uint64()
}

// TestAny: all calls as chance has them, some packets wrong; what is sent goes on by draws from one list and behind it.
func TestAny(t *testing.T) {
	r := rand.New(rand.NewPCG(19, 2))
	taken, sent := map[bool]int{}, map[bool]int{}
	for round := range 400 {
		k, size := 1+r.IntN(128), 1+r.IntN(64)
		if round%2 == 0 {
			k, size = 1+r.IntN(12), 1+r.IntN(3)
		}
		most := r.IntN(2 + min(k, 20))
		target := r.IntN(k+3) - 1
		if r.IntN(8) == 0 {
			target = targets[r.IntN(len(targets))]
		}
		one, w := relay.New(most, target), twinned(most, target)
		list := make([]uint64, r.IntN(30))
		for i := range list {
			list[i] = number(r)
		}
		d, used := draws.New(list), 0
		for range 60 {
			switch r.IntN(20) {
			case 0:
				crash(t, "any", one, w)
			case 1, 2, 3, 4, 5, 6:
				draw := behind(used + 1)
				if used < len(list) {
					draw = list[used]
				}
				used += min(w.b.Len(), 1)
				want, wanted := w.emit(draw)
				got, ok := one.Emit(d)
				told(t, "any", got, ok, want, wanted)
				if d.Used() != used {
					t.Errorf("%d draws are used, not %d", d.Used(), used)
				}
				sent[wanted]++
			default:
				p := drawn(r, k, size, 15)
				if r.IntN(6) == 0 {
					bad := faults(p)
					names := slices.Sorted(maps.Keys(bad))
					p = bad[names[r.IntN(len(names))]]
				}
				taken[put(t, "any", one, w, p)]++
			}
			check(t, "any", one, w)
		}
		if t.Failed() {
			t.Fatalf("round %d", round)
		}
	}
	if taken[true] < 2000 || taken[false] < 2000 || sent[true] < 1000 || sent[false] < 1000 {
		t.Errorf("%v, %v", taken, sent)
	}
}

// TestTrue (T1): of packets that are true of some blocks, all that relays send is true of them, from relay to relay.
func TestTrue(t *testing.T) {
	r := rand.New(rand.NewPCG(19, 3))
	for range 60 {
		k, size := 1+r.IntN(128), 1+r.IntN(8)
		source := make([]string, k)
		for i := range source {
			source[i] = drawn(r, 1, size, 0).Row.Data
		}
		sum := func(v []uint64) string {
			out := make([]byte, size)
			for i, b := range source {
				if v[i/64]>>(i%64)&1 == 1 {
					for j := range out {
						out[j] ^= b[j]
					}
				}
			}
			return string(out)
		}
		chain := make([]*relay.Relay, 5)
		for i := range chain {
			chain[i] = relay.New(1+r.IntN(20), r.IntN(k+1))
		}
		d := draws.New(nil)
		for range 40 {
			p := drawn(r, k, size, 3)
			p.Row.Data = sum(p.Row.Vec)
			for i, one := range chain {
				one.Put(p)
				next, ok := one.Emit(d)
				if !ok || next.Row.Data != sum(next.Row.Vec) || packet.Check(next) != api.OK {
					t.Fatalf("relay %d: %+v, %t", i, next, ok)
				}
				p = next
			}
		}
	}
}

// TestEmitKeeps: however often is sent, the same is kept, and the same draw gives the same again.
func TestEmitKeeps(t *testing.T) {
	r := rand.New(rand.NewPCG(19, 4))
	for _, target := range []int{1, 3, 9, 30} {
		one, w := filled(t, 20, target, drawnList(r, 20, 30, 3, 10)...)
		for range 20 {
			for draw := range uint64(20) {
				emit(t, "keeps", one, w, draw)
			}
			one.Emit(nil)
		}
	}
}

// TestHandedIn (R4): a packet is as it was, with what lies around its row; and what becomes of it later is not seen.
func TestHandedIn(t *testing.T) {
	for _, most := range []int{0, 1, 2, 65, 256} {
		for _, target := range []int{1, 4, 65} {
			r, w := relay.New(most, target), twinned(most, target)
			for i := range 66 {
				p := blocks(65, "xyz", i%65, (i*i+7)%65)
				vec := []uint64{77, p.Row.Vec[0], p.Row.Vec[1], 78}
				text := []byte("-xyz-")
				words := slices.Clone(vec)
				p.Row = api.Row{Vec: vec[1:3], Data: unsafe.String(&text[1], 3)}
				put(t, "handed in", r, w, p)
				put(t, "handed in", r, w, with(p, func(q *api.Packet) { q.Row.Vec = vec[1:4] }))
				emit(t, "handed in", r, w, uint64(i))
				if !slices.Equal(vec, words) || string(text) != "-xyz-" {
					t.Errorf("most %d: a row and what lies around it became %x, %q", most, vec, text)
				}
				clear(vec)
				copy(text, "spoil")
				emit(t, "spoilt behind Put", r, w, uint64(i))
			}
		}
	}
}

// TestDrawsHandedIn (R4): a list of draws is as it was, and the draws are not kept: others are taken the next time.
func TestDrawsHandedIn(t *testing.T) {
	r, _ := filled(t, 9, 1, four(1), four(2), four(4))
	l := []uint64{9, 1, 2, 8}
	one, two := draws.New(l[1:3]), draws.New([]uint64{0})
	for _, c := range []struct {
		d    *draws.Draws
		want uint64
	}{{one, 2}, {two, 1}, {one, 4}, {nil, 1 << (behind(1) % 3)}, {two, 1 << (behind(2) % 3)}, {one, 1 << (behind(3) % 3)}} {
		got, ok := r.Emit(c.d)
		told(t, "draws", got, ok, hopped(four(c.want), 1), true)
	}
	if !slices.Equal(l, []uint64{9, 1, 2, 8}) || one.Used() != 3 || two.Used() != 2 {
		t.Errorf("%d, %d and %d used", l, one.Used(), two.Used())
	}
}

// TestHandedOut (R4): no two answers of Emit lie in the same memory, nor in what was handed in; what is done to one is not seen in another.
func TestHandedOut(t *testing.T) {
	for _, k := range []int{4, 65} {
		for _, target := range []int{1, 2, 3} {
			text := strings.Clone("abcdefghi")
			var in []api.Packet
			for i := range 3 {
				p := blocks(k, "xyz", i)
				p.Row.Data = text[3*i : 3*i+3]
				in = append(in, p)
			}
			r, w := filled(t, 3, target, in...)
			answers := slices.Clone(in)
			var wants []api.Packet
			for i := range 6 {
				p, _ := r.Emit(draws.New([]uint64{uint64(i % 3)}))
				want, _ := w.emit(uint64(i % 3))
				answers = append(answers, p)
				wants = append(wants, want)
			}
			bytes, words := map[*byte]int{}, map[*uint64]int{}
			for place, p := range answers {
				for i := range len(p.Row.Data) {
					at := unsafe.StringData(p.Row.Data[i:])
					if other, is := bytes[at]; is {
						t.Errorf("answers %d and %d share text", other, place)
					}
					bytes[at] = place
				}
				row := p.Row.Vec[:cap(p.Row.Vec)]
				for i := range row {
					if other, is := words[&row[i]]; is {
						t.Errorf("answers %d and %d share a row", other, place)
					}
					words[&row[i]] = place
				}
			}
			// The first is spoilt; neither the others nor what comes later are.
			p := answers[3]
			clear(unsafe.Slice(unsafe.StringData(p.Row.Data), len(p.Row.Data)))
			clear(p.Row.Vec[:cap(p.Row.Vec)])
			for draw := range uint64(3) {
				emit(t, "spoilt", r, w, draw)
			}
			r.Put(blocks(k, "new", 3))
			r.Crash()
			r.Put(blocks(k, "one", 0, 1, 2, 3))
			if !slices.EqualFunc(answers[4:], wants[1:], same) {
				t.Errorf("%+v, not %+v", answers[4:], wants[1:])
			}
		}
	}
}

// TestAgain (R5): the same calls on another relay give the same, to the last byte, whatever is asked between and whatever other relays do.
func TestAgain(t *testing.T) {
	r := rand.New(rand.NewPCG(19, 5))
	for range 100 {
		k, size := 1+r.IntN(70), 1+r.IntN(4)
		most, target := r.IntN(min(k, 15)+2), r.IntN(k+2)
		one, two, other := relay.New(most, target), relay.New(most, target), relay.New(most+1, target+1)
		list := make([]uint64, r.IntN(20))
		for i := range list {
			list[i] = number(r)
		}
		first, second := draws.New(list), draws.New(list)
		for range 60 {
			other.Put(drawn(r, k, size, 15))
			other.Emit(nil)
			for range 2 {
				two.Inc()
				two.Kept()
				two.Rank()
			}
			switch r.IntN(12) {
			case 0:
				one.Crash()
				two.Crash()
			case 1:
				other.Crash()
			case 2, 3, 4, 5:
				p, ok := one.Emit(first)
				q, is := two.Emit(second)
				told(t, "again", q, is, p, ok)
				two.Emit(nil)
			default:
				p := drawn(r, k, size, 14)
				if a, b := one.Put(p), two.Put(p); a != b {
					t.Fatalf("Put of %+v is %t and %t", p, a, b)
				}
			}
			if one.Inc() != two.Inc() || one.Kept() != two.Kept() || one.Rank() != two.Rank() || first.Used() != second.Used() {
				t.Fatalf("%d, %d, %d and %d, %d, %d", one.Inc(), one.Kept(), one.Rank(), two.Inc(), two.Kept(), two.Rank())
			}
		}
		if t.Failed() {
			t.FailNow()
		}
	}
}

// TestSideBySide: packets that come to one relay are not another's, though they are of the same object, draws and bound.
func TestSideBySide(t *testing.T) {
	one, ofOne := relay.New(4, 1), twinned(4, 1)
	two, ofTwo := relay.New(4, 1), twinned(4, 1)
	for i, bits := range []uint64{1, 2, 4, 8} {
		if !put(t, "one", one, ofOne, four(bits)) || !put(t, "two", two, ofTwo, hopped(four(15^bits), 3)) {
			t.Fatalf("%d is refused", bits)
		}
		for draw := range uint64(4) {
			emit(t, "one", one, ofOne, draw)
			emit(t, "two", two, ofTwo, draw)
		}
		if i == 2 {
			crash(t, "one", one, ofOne)
			check(t, "two", two, ofTwo)
		}
	}
	if one.Kept() != 1 || one.Inc() != 1 || two.Kept() != 4 || two.Inc() != 0 {
		t.Errorf("%d, %d and %d, %d", one.Kept(), one.Inc(), two.Kept(), two.Inc())
	}
}

// The limits are those that the tests count by.
func TestLimits(t *testing.T) {
	if api.MaxCap != 256 || api.MaxHops != 15 || api.MaxMix != 32 || api.MaxK != 128 || api.MaxBlock != 64 {
		t.Error("other limits")
	}
}
