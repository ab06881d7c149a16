package buffer_test

import (
	"maps"
	"math"
	"math/rand/v2"
	"slices"
	"strings"
	"testing"
	"unsafe"

	"bucketline/api"
	"bucketline/buffer"
)

// of gives a packet of that bits, of object 1: k blocks of as many bytes as data has, length bytes in all.
func of(length, k int, bits uint64, data string) api.Packet {
	v := make([]uint64, (k+63)/64)
	v[0] = bits
	return api.Packet{Object: 1, Len: length, K: k, Size: len(data), Row: api.Row{Vec: v, Data: data}}
}

// four gives a packet of four blocks of a byte.
func four(bits uint64, data string) api.Packet { return of(3, 4, bits, data) }

// blocks gives a packet of just these of k blocks.
func blocks(k int, data string, places ...int) api.Packet {
	p := of(0, k, 0, data)
	for _, i := range places {
		p.Row.Vec[i/64] |= 1 << (i % 64)
	}
	return p
}

// with gives p, changed.
func with(p api.Packet, change func(*api.Packet)) api.Packet {
	p.Row.Vec = slices.Clone(p.Row.Vec)
	change(&p)
	return p
}

// same tells whether two packets are alike in all they have, to the last word.
func same(a, b api.Packet) bool {
	return a.Object == b.Object && a.Len == b.Len && a.K == b.K && a.Size == b.Size && a.Hops == b.Hops &&
		slices.Equal(a.Row.Vec, b.Row.Vec) && a.Row.Data == b.Row.Data
}

// bits gives the places of v's bits.
func bits(v []uint64) []int {
	var out []int
	for i := range len(v) * 64 {
		if v[i/64]>>(i%64)&1 == 1 {
			out = append(out, i)
		}
	}
	return out
}

// sound tells what chapter 7 asks of a packet.
func sound(p api.Packet) bool {
	if p.Object < 0 || p.Object > 1<<32-1 || p.K < 1 || p.K > 128 || p.Size < 1 || p.Size > 64 {
		return false
	}
	if p.Len < 0 || p.Len > p.K*p.Size || p.Hops < 0 || p.Hops > 15 {
		return false
	}
	b := bits(p.Row.Vec)
	return len(p.Row.Vec) == (p.K+63)/64 && len(b) > 0 && b[len(b)-1] < p.K && len(p.Row.Data) == p.Size
}

// model is a buffer, told by the chapter's words.
type model struct {
	most int
	kept []api.Packet
}

func modelled(most int) *model {
	return &model{most: min(max(most, 0), 256)}
}

func (m *model) put(p api.Packet) bool {
	if !sound(p) || m.most == 0 {
		return false
	}
	for _, q := range m.kept {
		if p.Object != q.Object || p.Len != q.Len || p.K != q.K || p.Size != q.Size {
			return false
		}
	}
	if rank(append(slices.Clone(m.kept), p)) == rank(m.kept) {
		return false
	}
	if len(m.kept) == m.most {
		greatest := 0
		for _, q := range m.kept {
			greatest = max(greatest, len(bits(q.Row.Vec)))
		}
		gone := false
		var left []api.Packet
		for _, q := range m.kept {
			if !gone && len(bits(q.Row.Vec)) == greatest {
				gone = true
				continue
			}
			left = append(left, q)
		}
		m.kept = left
	}
	m.kept = append(m.kept, with(p, func(p *api.Packet) { p.Row.Data = strings.Clone(p.Row.Data) }))
	return true
}

// rank tells how many rows are left, once each is set against those ahead of it: by bools, highest bits first.
func rank(l []api.Packet) int {
	lead := map[int][]bool{}
	for _, p := range l {
		row := make([]bool, 128)
		for _, i := range bits(p.Row.Vec) {
			row[i] = true
		}
		for i := 127; i >= 0; i-- {
			if !row[i] {
				continue
			}
			other, is := lead[i]
			if !is {
				lead[i] = row
				break
			}
			for j := range row {
				row[j] = row[j] != other[j]
			}
		}
	}
	return len(lead)
}

// check holds what a buffer has against a list.
func check(t *testing.T, name string, b *buffer.Buffer, want []api.Packet) {
	t.Helper()
	if got := b.Len(); got != len(want) {
		t.Errorf("%s: Len is %d, not %d", name, got, len(want))
	}
	if got := b.All(); !slices.EqualFunc(got, want, same) {
		t.Errorf("%s: All is %v, not %v", name, got, want)
	}
}

// put puts p into both, and holds what both have against each other.
func put(t *testing.T, name string, b *buffer.Buffer, m *model, p api.Packet) {
	t.Helper()
	if got, want := b.Put(p), m.put(p); got != want {
		t.Errorf("%s: Put of %+v is %t, not %t", name, p, got, want)
	}
	check(t, name, b, m.kept)
}

// step is a Put, what it answers, and the rows that are there behind it.
type step struct {
	p    api.Packet
	ok   bool
	want []uint64
}

// TestSteps: fixed buffers, packet by packet, all that is kept told at each step.
func TestSteps(t *testing.T) {
	p := func(bits uint64) api.Packet { return four(bits, string(rune('a'+bits))) }
	other := with(p(8), func(p *api.Packet) { p.Object = 2 })
	for _, c := range []struct {
		name  string
		most  int
		steps []step
	}{
		{"the chapter's example", 2, []step{
			{p(1), true, []uint64{1}}, {p(6), true, []uint64{1, 6}}, {p(8), true, []uint64{1, 8}},
		}},
		{"the greatest one is the oldest", 2, []step{
			{p(6), true, []uint64{6}}, {p(1), true, []uint64{6, 1}}, {p(8), true, []uint64{1, 8}},
		}},
		{"the greatest one is the last", 3, []step{
			{p(1), true, []uint64{1}}, {p(6), true, []uint64{1, 6}}, {p(14), true, []uint64{1, 6, 14}}, {p(2), true, []uint64{1, 6, 2}},
		}},
		{"the greatest one stands between", 3, []step{
			{p(3), true, []uint64{3}}, {p(7), true, []uint64{3, 7}}, {p(12), true, []uint64{3, 7, 12}}, {p(1), true, []uint64{3, 12, 1}},
		}},
		{"of several the oldest: the first", 3, []step{
			{p(3), true, []uint64{3}}, {p(6), true, []uint64{3, 6}}, {p(12), true, []uint64{3, 6, 12}}, {p(1), true, []uint64{6, 12, 1}},
		}},
		{"of several the oldest: the second", 3, []step{
			{p(1), true, []uint64{1}}, {p(6), true, []uint64{1, 6}}, {p(12), true, []uint64{1, 6, 12}}, {p(8), true, []uint64{1, 12, 8}},
		}},
		{"of several the oldest, whichever row is the lesser", 3, []step{
			{p(12), true, []uint64{12}}, {p(6), true, []uint64{12, 6}}, {p(3), true, []uint64{12, 6, 3}}, {p(1), true, []uint64{6, 3, 1}},
		}},
		{"all of one block", 2, []step{
			{p(1), true, []uint64{1}}, {p(2), true, []uint64{1, 2}}, {p(4), true, []uint64{2, 4}}, {p(8), true, []uint64{4, 8}}, {p(1), true, []uint64{8, 1}},
		}},
		{"the new one stays, though it is greater than all", 2, []step{
			{p(1), true, []uint64{1}}, {p(2), true, []uint64{1, 2}}, {p(15), true, []uint64{2, 15}}, {p(4), true, []uint64{2, 4}},
		}},
		{"room for one", 1, []step{
			{p(3), true, []uint64{3}}, {p(3), false, []uint64{3}}, {p(15), true, []uint64{15}}, {p(1), true, []uint64{1}}, {p(15), true, []uint64{15}},
		}},
		{"room for none", 0, []step{
			{p(1), false, nil}, {p(15), false, nil}, {other, false, nil}, {api.Packet{}, false, nil},
		}},
		{"not fresh", 3, []step{
			{p(1), true, []uint64{1}}, {p(1), false, []uint64{1}}, {p(2), true, []uint64{1, 2}}, {p(3), false, []uint64{1, 2}},
			{p(12), true, []uint64{1, 2, 12}}, {p(13), false, []uint64{1, 2, 12}}, {p(14), false, []uint64{1, 2, 12}}, {p(15), false, []uint64{1, 2, 12}},
			{p(2), false, []uint64{1, 2, 12}}, {p(4), true, []uint64{1, 2, 4}},
		}},
		{"what is fresh only of what would be left is refused, too", 2, []step{
			// Were 6 gone first, 7 and 6 would be fresh of 1 alone.
			{p(1), true, []uint64{1}}, {p(6), true, []uint64{1, 6}}, {p(7), false, []uint64{1, 6}}, {p(6), false, []uint64{1, 6}},
		}},
		{"what goes may come again", 2, []step{
			{p(6), true, []uint64{6}}, {p(1), true, []uint64{6, 1}}, {p(8), true, []uint64{1, 8}}, {p(6), true, []uint64{8, 6}}, {p(1), true, []uint64{8, 1}},
		}},
		{"what goes may come again, but not where the others make it", 3, []step{
			{p(3), true, []uint64{3}}, {p(1), true, []uint64{3, 1}}, {p(4), true, []uint64{3, 1, 4}}, {p(8), true, []uint64{1, 4, 8}},
			{p(13), false, []uint64{1, 4, 8}}, {p(3), true, []uint64{4, 8, 3}}, {p(2), true, []uint64{4, 8, 2}}, {p(3), true, []uint64{8, 2, 3}},
			{p(1), false, []uint64{8, 2, 3}},
		}},
		{"refused ones between", 2, []step{
			{api.Packet{}, false, nil}, {p(16), false, nil}, {p(0), false, nil}, {p(6), true, []uint64{6}}, {other, false, []uint64{6}}, {p(16), false, []uint64{6}},
			{p(1), true, []uint64{6, 1}}, {other, false, []uint64{6, 1}}, {p(0), false, []uint64{6, 1}}, {p(7), false, []uint64{6, 1}}, {p(8), true, []uint64{1, 8}},
		}},
		{"more room than blocks", 5, []step{
			{p(15), true, []uint64{15}}, {p(7), true, []uint64{15, 7}}, {p(3), true, []uint64{15, 7, 3}}, {p(1), true, []uint64{15, 7, 3, 1}},
			{p(2), false, []uint64{15, 7, 3, 1}}, {p(4), false, []uint64{15, 7, 3, 1}}, {p(8), false, []uint64{15, 7, 3, 1}}, {p(15), false, []uint64{15, 7, 3, 1}},
		}},
	} {
		b := buffer.New(c.most)
		check(t, c.name, b, nil)
		for i, s := range c.steps {
			if got := b.Put(s.p); got != s.ok {
				t.Errorf("%s, step %d: %t", c.name, i, got)
			}
			var want []api.Packet
			for _, v := range s.want {
				want = append(want, p(v))
			}
			check(t, c.name, b, want)
			if t.Failed() {
				t.Fatalf("%s, step %d", c.name, i)
			}
		}
	}
}

// TestWhole: a packet is kept with all it has, and what is not fresh does not change it, whatever its text and its hops.
func TestWhole(t *testing.T) {
	for hops := range 16 {
		for _, object := range []int{0, 1, 255, 1<<31 - 1, 1 << 31, 1<<32 - 1} {
			b := buffer.New(2)
			p := with(four(6, "x"), func(p *api.Packet) { p.Hops, p.Object = hops, object })
			q := with(four(1, "y"), func(p *api.Packet) { p.Hops, p.Object = 15-hops, object })
			if !b.Put(p) || !b.Put(q) {
				t.Fatalf("object %d, hops %d is refused", object, hops)
			}
			for _, again := range []api.Packet{p, q} {
				again.Hops = (again.Hops + 1) % 16
				again.Row.Data = "z"
				if b.Put(again) {
					t.Errorf("%+v is kept twice", again)
				}
			}
			check(t, "whole", b, []api.Packet{p, q})
		}
	}
}

// TestEdges: packets at the bounds of K, Size and Len.
func TestEdges(t *testing.T) {
	for _, k := range []int{1, 2, 63, 64, 65, 127, 128} {
		for _, size := range []int{1, 2, 63, 64} {
			for _, length := range []int{0, 1, k*size - 1, k * size} {
				b, m := buffer.New(2), modelled(2)
				for _, i := range []int{0, k / 2, k - 1, 0} {
					p := with(blocks(k, strings.Repeat("x", size), i), func(p *api.Packet) { p.Len = length })
					put(t, "at the bounds", b, m, p)
				}
				if want := min(k, 2); b.Len() != want {
					t.Errorf("k %d, size %d, length %d: %d are kept", k, size, length, b.Len())
				}
			}
		}
	}
}

// TestMost: room for as many packets as the bound says and no more, at its edges and far beyond them. Beyond 128 it isn't to be seen: there are no more that are fresh.
func TestMost(t *testing.T) {
	for _, c := range []struct{ most, room int }{
		{math.MinInt, 0}, {math.MinInt + 1, 0}, {-1 << 32, 0}, {-257, 0}, {-256, 0}, {-1, 0}, {0, 0}, {1, 1}, {2, 2}, {3, 3}, {63, 63}, {64, 64}, {65, 65}, {126, 126}, {127, 127},
		{128, 128}, {129, 128}, {255, 128}, {256, 128}, {257, 128}, {258, 128}, {512, 128}, {1 << 31, 128}, {1<<32 - 1, 128}, {1 << 32, 128}, {1<<32 + 1, 128}, {math.MaxInt - 1, 128}, {math.MaxInt, 128},
	} {
		b := buffer.New(c.most)
		var want []api.Packet
		for i := range 128 {
			p := blocks(128, "x", i)
			if got := b.Put(p); got != (c.room > 0) {
				t.Fatalf("most %d: packet %d is %t", c.most, i, got)
			}
			want = append(want, p)
			want = want[max(0, len(want)-c.room):]
			check(t, "most", b, want)
		}
		if t.Failed() {
			t.Fatalf("most %d", c.most)
		}
	}
}

// faults gives, of a packet that is right, those that chapter 7's Check refuses, each by one thing alone.
func faults(p api.Packet) map[string]api.Packet {
	vec, data := p.Row.Vec, p.Row.Data
	whole := p.K * p.Size
	out := map[string]api.Packet{
		"no packet":       {},
		"Object below 0":  with(p, func(p *api.Packet) { p.Object = -1 }),
		"Object least":    with(p, func(p *api.Packet) { p.Object = math.MinInt }),
		"Object beyond":   with(p, func(p *api.Packet) { p.Object = 1 << 32 }),
		"Object greatest": with(p, func(p *api.Packet) { p.Object = math.MaxInt }),
		"Len below 0":     with(p, func(p *api.Packet) { p.Len = -1 }),
		"Len least":       with(p, func(p *api.Packet) { p.Len = math.MinInt }),
		"Len beyond":      with(p, func(p *api.Packet) { p.Len = whole + 1 }),
		"Len greatest":    with(p, func(p *api.Packet) { p.Len = math.MaxInt }),
		"K 0":             with(p, func(p *api.Packet) { p.K, p.Len = 0, 0 }),
		"K below 0":       with(p, func(p *api.Packet) { p.K = -1 }),
		"K least":         with(p, func(p *api.Packet) { p.K = math.MinInt }),
		"K beyond":        with(p, func(p *api.Packet) { p.K = 129 }),
		"K greatest":      with(p, func(p *api.Packet) { p.K = math.MaxInt }),
		"Size 0":          with(p, func(p *api.Packet) { p.Size, p.Len, p.Row.Data = 0, 0, "" }),
		"Size below 0":    with(p, func(p *api.Packet) { p.Size = -1 }),
		"Size beyond":     with(p, func(p *api.Packet) { p.Size, p.Row.Data = 65, strings.Repeat("x", 65) }),
		"Size greatest":   with(p, func(p *api.Packet) { p.Size = math.MaxInt }),
		"Hops below 0":    with(p, func(p *api.Packet) { p.Hops = -1 }),
		"Hops beyond":     with(p, func(p *api.Packet) { p.Hops = 16 }),
		"Hops least":      with(p, func(p *api.Packet) { p.Hops = math.MinInt }),
		"Hops greatest":   with(p, func(p *api.Packet) { p.Hops = math.MaxInt }),
		"Vec nil":         with(p, func(p *api.Packet) { p.Row.Vec = nil }),
		"Vec a word less": with(p, func(p *api.Packet) { p.Row.Vec = p.Row.Vec[:len(vec)-1] }),
		"Vec a word more": with(p, func(p *api.Packet) { p.Row.Vec = append(p.Row.Vec, 0) }),
		"Vec of no bit":   with(p, func(p *api.Packet) { clear(p.Row.Vec) }),
		"Data empty":      with(p, func(p *api.Packet) { p.Row.Data = "" }),
		"Data less":       with(p, func(p *api.Packet) { p.Row.Data = data[1:] }),
		"Data more":       with(p, func(p *api.Packet) { p.Row.Data += "x" }),
	}
	if p.K%64 != 0 {
		out["Vec of a block beyond"] = with(p, func(p *api.Packet) { p.Row.Vec[p.K/64] |= 1 << (p.K % 64) })
	}
	return out
}

// others gives, of a packet that is right, right ones of which just one of Object, Len, K, Size is another.
func others(p api.Packet) map[string]api.Packet {
	return map[string]api.Packet{
		"Object 0":       with(p, func(p *api.Packet) { p.Object = 0 }),
		"Object more":    with(p, func(p *api.Packet) { p.Object++ }),
		"Object in 2^32": with(p, func(p *api.Packet) { p.Object ^= 1 << 31 }),
		"Len less":       with(p, func(p *api.Packet) { p.Len-- }),
		"Len more":       with(p, func(p *api.Packet) { p.Len++ }),
		"Len 0":          with(p, func(p *api.Packet) { p.Len = 0 }),
		"K less":         with(p, func(p *api.Packet) { p.K-- }),
		"K more":         with(p, func(p *api.Packet) { p.K++ }),
		"Size less":      with(p, func(p *api.Packet) { p.Size, p.Row.Data = p.Size-1, p.Row.Data[1:] }),
		"Size more":      with(p, func(p *api.Packet) { p.Size, p.Row.Data = p.Size+1, p.Row.Data+"x" }),
	}
}

// filled gives buffers of packets like p, of four blocks or more, of which p is fresh: it has their first and third one; and their models.
func filled(t *testing.T, p api.Packet) map[string]func() (*buffer.Buffer, *model) {
	after := func(most int, rows ...[]int) func() (*buffer.Buffer, *model) {
		return func() (*buffer.Buffer, *model) {
			b, m := buffer.New(most), modelled(most)
			for _, row := range rows {
				put(t, "filling", b, m, with(p, func(p *api.Packet) { p.Row.Vec = blocks(p.K, "x", row...).Row.Vec }))
			}
			return b, m
		}
	}
	return map[string]func() (*buffer.Buffer, *model){
		"behind one packet":         after(9, []int{1}),
		"behind two":                after(9, []int{1}, []int{0, 1, 3}),
		"just full of one":          after(1, []int{2, 3}),
		"just full":                 after(2, []int{1}, []int{0, 1, 3}),
		"behind one that went":      after(2, []int{0, 1, 2}, []int{1}, []int{3}),
		"full, the greatest first":  after(3, []int{0, 1, 2}, []int{1, 3}, []int{3}),
		"full, the greatest last":   after(3, []int{3}, []int{1, 3}, []int{0, 1, 2}),
		"full of packets of degree": after(2, []int{1, 3}, []int{0, 1}),
	}
}

// TestFaults: packets that Check refuses are refused, first and later, and change nothing.
func TestFaults(t *testing.T) {
	for _, k := range []int{4, 5, 64, 65, 70, 128} {
		p := of(5, k, 5, "xyz")
		for name, bad := range faults(p) {
			for _, most := range []int{-1, 0, 1, 256} {
				b, m := buffer.New(most), modelled(most)
				for range 2 {
					if b.Put(bad) {
						t.Errorf("k %d, most %d: %s is kept first", k, most, name)
					}
					check(t, name, b, nil)
				}
				// It says of no object: another one's comes first.
				put(t, name, b, m, with(p, func(p *api.Packet) { p.Object, p.Len = 9, 4 }))
				put(t, name, b, m, p)
			}
			for where, make := range filled(t, p) {
				b, m := make()
				for range 2 {
					if b.Put(bad) {
						t.Errorf("k %d: %s is kept %s", k, name, where)
					}
					check(t, name+" "+where, b, m.kept)
				}
				put(t, name, b, m, p)
			}
		}
	}
}

// TestOthers: packets of another Object, Len, K or Size are refused, each by itself; they change nothing, and as first ones they are right.
func TestOthers(t *testing.T) {
	for _, k := range []int{5, 6, 66, 126} {
		p := of(5, k, 5, "xyz")
		for name, other := range others(p) {
			if !sound(other) {
				t.Fatalf("k %d: %s is refused for itself", k, name)
			}
			b := buffer.New(1)
			if !b.Put(other) {
				t.Errorf("k %d: %s first is refused", k, name)
			}
			check(t, name, b, []api.Packet{other})
			for where, make := range filled(t, p) {
				b, m := make()
				for range 2 {
					if b.Put(other) {
						t.Errorf("k %d: %s is kept %s", k, name, where)
					}
					check(t, name+" "+where, b, m.kept)
				}
				put(t, name, b, m, p)
				b.Clear()
				m.kept = nil
				// Where nothing is kept any more, it is of no other object.
				put(t, name, b, m, other)
				put(t, name, b, m, p)
			}
			// And the other way round.
			for _, most := range []int{0, 1, 9} {
				b, m := buffer.New(most), modelled(most)
				for _, q := range []api.Packet{other, p, other, p} {
					put(t, name, b, m, q)
				}
			}
		}
	}
}

// TestOtherWords: of K at the edge of a word, packets of the K beside it, with the words that these have.
func TestOtherWords(t *testing.T) {
	p, q := of(5, 64, 1, "xyz"), of(5, 65, 2, "xyz")
	for _, c := range [][]api.Packet{{p, q, p, q}, {q, p, q, p}} {
		for _, most := range []int{0, 1, 2} {
			b, m := buffer.New(most), modelled(most)
			for _, one := range c {
				put(t, "at a word's edge", b, m, one)
			}
			if b.Len() != min(most, 1) {
				t.Errorf("most %d: %d are kept", most, b.Len())
			}
		}
	}
}

// TestNotFresh: each xor of some of what is kept is refused, whatever its text; each that has one block more is not.
func TestNotFresh(t *testing.T) {
	for _, k := range []int{5, 64, 70, 128} {
		kept := []api.Packet{blocks(k, "a", 0), blocks(k, "b", 0, 2, k-1), blocks(k, "c", 2, 3)}
		for _, most := range []int{3, 4, 256} {
			for choice := range 8 {
				b := buffer.New(most)
				sum := blocks(k, "z")
				for i, p := range kept {
					if !b.Put(p) {
						t.Fatalf("k %d: packet %d is refused", k, i)
					}
					if choice>>i&1 == 1 {
						for w := range sum.Row.Vec {
							sum.Row.Vec[w] ^= p.Row.Vec[w]
						}
					}
				}
				if b.Put(sum) {
					t.Errorf("k %d, most %d: the xor of choice %d is kept", k, most, choice)
				}
				check(t, "not fresh", b, kept)
				more := with(sum, func(p *api.Packet) { p.Row.Vec[0] ^= 2 })
				if !b.Put(more) {
					t.Errorf("k %d, most %d: the xor of choice %d and another block is refused", k, most, choice)
				}
				want := append(slices.Clone(kept), more)
				if most == 3 {
					want = slices.Delete(want, 1, 2)
				}
				check(t, "fresh", b, want)
			}
		}
	}
}

// TestEachPlace: one packet of the greatest degree goes wherever it stands; of two such ones, the older one.
func TestEachPlace(t *testing.T) {
	for n := 1; n <= 8; n++ {
		for one := range n {
			for two := one; two < n; two++ {
				for _, wide := range []int{2, 3, 40} {
					b := buffer.New(n)
					var want []api.Packet
					for i := range n {
						// Block i alone, or with some from 10 on: no other has block i, so all are fresh.
						p := blocks(128, "x", i)
						if i == one || i == two {
							for j := range wide - 1 {
								block := 10 + (i*50+j*7)%110
								p.Row.Vec[block/64] |= 1 << (block % 64)
							}
						}
						if !b.Put(p) {
							t.Fatalf("n %d, place %d is refused", n, i)
						}
						if i != one {
							want = append(want, p)
						}
					}
					p := blocks(128, "y", 9)
					if !b.Put(p) {
						t.Fatalf("n %d: the new one is refused", n)
					}
					check(t, "each place", b, append(want, p))
				}
			}
		}
	}
}

// TestEachDegree: of any two degrees that a packet may have, the greater one goes, whichever stands first.
func TestEachDegree(t *testing.T) {
	row := func(bit, degree int) api.Packet {
		places := []int{bit}
		for i := range degree - 1 {
			places = append(places, 3+i)
		}
		return blocks(128, "x", places...)
	}
	for a := 1; a <= 126; a++ {
		for _, d := range []int{1, 2, 3, 62, 63, 64, 65, 66, 125, 126} {
			p, q, last := row(0, a), row(1, d), blocks(128, "x", 2)
			b := buffer.New(2)
			if !b.Put(p) || !b.Put(q) || !b.Put(last) {
				t.Fatalf("degrees %d, %d: refused", a, d)
			}
			want := []api.Packet{q, last}
			if d > a {
				want = []api.Packet{p, last}
			}
			check(t, "degrees", b, want)
		}
	}
	all := make([]int, 128)
	for i := range all {
		all[i] = i
	}
	b := buffer.New(2)
	b.Put(blocks(128, "x", 0))
	b.Put(blocks(128, "y", all...))
	b.Put(blocks(128, "z", 1))
	check(t, "all blocks", b, []api.Packet{blocks(128, "x", 0), blocks(128, "z", 1)})
}

// orders gives all orders of 0 to n - 1.
func orders(n int) [][]int {
	if n == 0 {
		return [][]int{nil}
	}
	var out [][]int
	for _, o := range orders(n - 1) {
		for at := range n {
			out = append(out, slices.Insert(slices.Clone(o), at, n-1))
		}
	}
	return out
}

// TestAllOrders: packets of many degrees, some alike, in all their orders and at each most.
func TestAllOrders(t *testing.T) {
	for _, list := range [][]uint64{{1, 2, 4, 8, 16, 32}, {1, 3, 7, 15, 31, 63}, {3, 12, 48, 1, 4, 16}, {7, 56, 3, 24, 1, 8}, {3, 6, 5, 12, 24, 48}, {63, 62, 61, 59, 55, 47}} {
		for _, o := range orders(len(list)) {
			for most := range 8 {
				b, m := buffer.New(most), modelled(most)
				for _, i := range o {
					put(t, "in order", b, m, of(6, 6, list[i], string(rune('a'+i))))
				}
			}
		}
		if t.Failed() {
			t.Fatalf("%v", list)
		}
	}
}

// TestEachShortList: all lists of five steps out of nine: each row of three blocks, one beyond, a Clear.
func TestEachShortList(t *testing.T) {
	for most := range 5 {
		for n := range 9 * 9 * 9 * 9 * 9 {
			b, m := buffer.New(most), modelled(most)
			rest := n
			for range 5 {
				if what := rest % 9; what == 0 {
					b.Clear()
					m.kept = nil
					check(t, "cleared", b, nil)
				} else {
					put(t, "short list", b, m, of(3, 3, uint64(what), string(rune('a'+rest%25))))
				}
				rest /= 9
			}
			if t.Failed() {
				t.Fatalf("most %d, list %d", most, n)
			}
		}
	}
}

// TestClear: of an empty buffer and of a full one; behind it what was kept may come again, and so may another object, within the same bound.
func TestClear(t *testing.T) {
	for _, most := range []int{0, 1, 2, 3, 9} {
		b, m := buffer.New(most), modelled(most)
		for round := range 4 {
			for range 2 {
				b.Clear()
				m.kept = nil
				check(t, "cleared", b, nil)
			}
			for _, v := range []uint64{3, 1, 12, 8, 2, 3} {
				put(t, "behind Clear", b, m, with(four(v, "x"), func(p *api.Packet) {
					p.Object = round % 2
					p.Len = round / 2
				}))
				put(t, "behind Clear", b, m, with(four(v, "x"), func(p *api.Packet) {
					p.Object = 1 - round%2
					p.Len = round / 2
				}))
			}
			if want := min(most, 4); b.Len() != want {
				t.Errorf("most %d, round %d: %d are kept", most, round, b.Len())
			}
		}
	}
}

// TestGoneDoesNotHold: only what is kept says of which object and of what a packet is fresh, not what went.
func TestGoneDoesNotHold(t *testing.T) {
	b := buffer.New(2)
	for _, v := range []uint64{7, 1, 8} {
		if !b.Put(four(v, "x")) {
			t.Fatalf("%d is refused", v)
		}
	}
	// 7 went; 6 is 7 xor 1, and yet fresh of 1 and 8.
	if !b.Put(four(6, "y")) {
		t.Error("6 is refused")
	}
	check(t, "gone", b, []api.Packet{four(8, "x"), four(6, "y")})
}

// TestNil (R1): no buffer keeps nothing, has nothing, and needs no Clear.
func TestNil(t *testing.T) {
	var b *buffer.Buffer
	for _, p := range []api.Packet{{}, four(1, "a"), four(0, "a"), {K: math.MaxInt, Size: math.MaxInt}} {
		if b.Put(p) {
			t.Errorf("%+v is kept", p)
		}
		check(t, "nil", b, nil)
		b.Clear()
		check(t, "nil", b, nil)
	}
}

// TestNew: each call gives a buffer of its own, empty, whatever the bound.
func TestNew(t *testing.T) {
	for _, most := range []int{math.MinInt, -1, 0, 1, 256, 257, math.MaxInt} {
		one, two := buffer.New(most), buffer.New(most)
		if one == nil || two == nil || one == two {
			t.Fatalf("most %d: %p and %p", most, one, two)
		}
		check(t, "new", one, nil)
		one.Put(four(1, "a"))
		check(t, "the other", two, nil)
		two.Put(four(1, "b"))
		one.Clear()
		if want := min(max(most, 0), 1); two.Len() != want {
			t.Errorf("most %d: %d are kept", most, two.Len())
		}
	}
}

// some gives some of k places, a few mostly.
func some(r *rand.Rand, k int) []int {
	n := 1 + r.IntN(min(k, 6))
	if r.IntN(4) == 0 {
		n = 1 + r.IntN(k)
	}
	return r.Perm(k)[:n]
}

// drawn gives a packet of object 7 as chance has it.
func drawn(r *rand.Rand, length, k, size int) api.Packet {
	text := make([]byte, size)
	for i := range text {
		text[i] = byte(r.Uint64())
	}
	return with(blocks(k, string(text), some(r, k)...), func(p *api.Packet) {
		p.Object, p.Len, p.Hops = 7, length, r.IntN(16)
	})
}

// spoilt gives one of p's faults, or p of another object.
func spoilt(r *rand.Rand, p api.Packet) api.Packet {
	bad := faults(p)
	if r.IntN(2) == 0 {
		bad = map[string]api.Packet{
			"Object": with(p, func(p *api.Packet) { p.Object-- }),
			"Len":    with(p, func(p *api.Packet) { p.Len ^= 1 }),
			"K":      with(p, func(p *api.Packet) { p.K ^= 1 }),
			"Size":   with(p, func(p *api.Packet) { p.Size, p.Row.Data = p.Size+1, p.Row.Data+"x" }),
		}
	}
	names := slices.Sorted(maps.Keys(bad))
	return bad[names[r.IntN(len(names))]]
}

// TestAny: packets as chance has them, some wrong, with a Clear now and then.
func TestAny(t *testing.T) {
	r := rand.New(rand.NewPCG(17, 1))
	seen := map[bool]int{}
	went := 0
	for round := range 400 {
		k, size := 1+r.IntN(128), 1+r.IntN(64)
		if round%2 == 0 {
			k, size = 1+r.IntN(12), 1+r.IntN(3)
		}
		most := r.IntN(2 + min(k, 20))
		length := r.IntN(k*size + 1)
		b, m := buffer.New(most), modelled(most)
		for range 40 {
			if r.IntN(25) == 0 {
				b.Clear()
				m.kept = nil
			}
			p := drawn(r, length, k, size)
			if len(m.kept) > 0 && r.IntN(5) == 0 {
				// A row that is there already.
				w := m.kept[r.IntN(len(m.kept))].Row.Vec
				for i := range min(len(w), len(p.Row.Vec)) {
					p.Row.Vec[i] = w[i]
				}
			}
			if r.IntN(4) == 0 {
				p = spoilt(r, p)
			}
			was := len(m.kept)
			got, want := b.Put(p), m.put(p)
			if got != want {
				t.Fatalf("round %d: Put of %+v is %t, not %t", round, p, got, want)
			}
			seen[got]++
			if got && len(m.kept) == was {
				went++
			}
			check(t, "any", b, m.kept)
		}
		if t.Failed() {
			t.Fatalf("round %d", round)
		}
	}
	if seen[true] < 2000 || seen[false] < 2000 || went < 1000 {
		t.Errorf("%v, and %d went", seen, went)
	}
}

// TestHandedIn (R4): a packet is as it was, with what lies around its row; and what becomes of it later is not seen.
func TestHandedIn(t *testing.T) {
	for _, most := range []int{0, 1, 2, 65, 256} {
		b, m := buffer.New(most), modelled(most)
		for i := range 66 {
			p := blocks(65, "xyz", i%65, (i*i+7)%65)
			vec := []uint64{77, p.Row.Vec[0], p.Row.Vec[1], 78}
			text := []byte("-" + p.Row.Data + "-")
			words, was := slices.Clone(vec), string(text)
			p.Row = api.Row{Vec: vec[1:3], Data: unsafe.String(&text[1], 3)}
			put(t, "handed in", b, m, p)
			put(t, "handed in", b, m, with(p, func(q *api.Packet) { q.Row.Vec = vec[1:4] }))
			put(t, "handed in", b, m, with(p, func(q *api.Packet) { q.Len++ }))
			if !slices.Equal(vec, words) || string(text) != was {
				t.Errorf("most %d: a row and what lies around it became %x, %q", most, vec, text)
			}
			clear(vec)
			copy(text, "spoil")
			check(t, "spoilt behind Put", b, m.kept)
		}
	}
}

// TestHandedOut (R4): no two answers of All lie in the same memory, nor in what was handed in; what is done to one is not seen in another.
func TestHandedOut(t *testing.T) {
	for _, k := range []int{4, 65} {
		b := buffer.New(3)
		text := strings.Clone("abcdefghijklmno")
		var in []api.Packet
		for i, p := range []api.Packet{blocks(k, "xyz", 1, 2, 3), blocks(k, "xyz", 0), blocks(k, "xyz", 1, 2), blocks(k, "xyz", 1)} {
			p.Row.Data = text[3*i : 3*i+3]
			in = append(in, p)
			if !b.Put(p) {
				t.Fatalf("packet %d is refused", i)
			}
		}
		want := []api.Packet{in[1], in[2], in[3]}
		answers := [][]api.Packet{in, b.All(), b.All(), b.All()}
		bytes, words := map[*byte]int{}, map[*uint64]int{}
		for place, l := range answers {
			for _, p := range l {
				for i := range len(p.Row.Data) {
					at := unsafe.StringData(p.Row.Data[i:])
					if other, is := bytes[at]; is {
						t.Errorf("answers %d and %d share text", other, place)
					}
					bytes[at] = place
				}
				row := p.Row.Vec[:cap(p.Row.Vec)]
				for i := range row {
					if other, is := words[&row[i]]; is {
						t.Errorf("answers %d and %d share a row", other, place)
					}
					words[&row[i]] = place
				}
			}
		}
		one := b.All()
		for _, p := range one {
			clear(unsafe.Slice(unsafe.StringData(p.Row.Data), len(p.Row.Data)))
			clear(p.Row.Vec[:cap(p.Row.Vec)])
		}
		clear(one[:cap(one)])
		_ = append(one[:0], api.Packet{}, api.Packet{})
		check(t, "spoilt", b, want)
		if !slices.EqualFunc(answers[1], want, same) {
			t.Errorf("%v, not %v", answers[1], want)
		}
		// What was handed out stays, whatever becomes of the buffer.
		old := b.All()
		b.Put(blocks(k, "new", 3))
		b.Clear()
		b.Put(blocks(k, "one", 0, 1, 2, 3))
		if !slices.EqualFunc(old, want, same) {
			t.Errorf("%v, not %v", old, want)
		}
	}
}

// TestAgain (R5): the same calls on another buffer give the same, whatever is asked between and whatever other buffers hold.
func TestAgain(t *testing.T) {
	r := rand.New(rand.NewPCG(17, 2))
	for range 100 {
		k, size := 1+r.IntN(20), 1+r.IntN(4)
		most := r.IntN(k + 2)
		length := r.IntN(k*size + 1)
		one, two, other := buffer.New(most), buffer.New(most), buffer.New(most+1)
		m := modelled(most)
		for range 2*k + 10 {
			p := drawn(r, length, k, size)
			if r.IntN(4) == 0 {
				p = spoilt(r, p)
			}
			a := one.Put(p)
			other.Put(drawn(r, length, k, size))
			for range 3 {
				two.All()
				two.Len()
			}
			c := two.Put(p)
			if want := m.put(p); a != want || c != want {
				t.Fatalf("Put of %+v is %t and %t, not %t", p, a, c, want)
			}
			if r.IntN(10) == 0 {
				other.Clear()
			}
			if r.IntN(20) == 0 {
				one.Clear()
				two.Clear()
				m.kept = nil
			}
		}
		for range 2 {
			check(t, "one", one, m.kept)
			check(t, "two", two, m.kept)
		}
	}
}
