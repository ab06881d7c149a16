package decoder_test

import (
	"maps"
	"math"
	"math/rand/v2"
	"slices"
	"strings"
	"testing"
	"unsafe"

	"bucketline/api"
	"bucketline/decoder"
	"bucketline/gauss"
	"bucketline/split"
)

// of gives a packet of that bits, of object 1: k blocks of as many bytes as data has, length bytes in all.
func of(length, k int, bits uint64, data string) api.Packet {
	v := make([]uint64, (k+63)/64)
	v[0] = bits
	return api.Packet{Object: 1, Len: length, K: k, Size: len(data), Row: api.Row{Vec: v, Data: data}}
}

// ab gives a packet of the chapter's example: two blocks of a byte.
func ab(bits uint64, data string) api.Packet { return of(2, 2, bits, data) }

// model is a decoder, told by the chapter's words.
type model struct {
	most  int
	first *api.Packet
	rows  []api.Row
	over  bool
	done  bool
	text  string
}

func modelled(most int) *model {
	return &model{most: min(max(most, 0), 256)}
}

// bits gives the places of v's bits.
func bits(v []uint64) []int {
	var out []int
	for i := range len(v) * 64 {
		if v[i/64]>>(i%64)&1 == 1 {
			out = append(out, i)
		}
	}
	return out
}

// sound tells what chapter 7 asks of a packet.
func sound(p api.Packet) bool {
	if p.Object < 0 || p.Object > 1<<32-1 || p.K < 1 || p.K > 128 || p.Size < 1 || p.Size > 64 {
		return false
	}
	if p.Len < 0 || p.Len > p.K*p.Size || p.Hops < 0 || p.Hops > 15 {
		return false
	}
	b := bits(p.Row.Vec)
	return len(p.Row.Vec) == (p.K+63)/64 && len(b) > 0 && b[len(b)-1] < p.K && len(p.Row.Data) == p.Size
}

func (m *model) put(p api.Packet) api.Errno {
	if !sound(p) {
		return api.ErrArg
	}
	if m.first == nil {
		m.first = &p
	}
	f := m.first
	if p.Object != f.Object || p.Len != f.Len || p.K != f.K || p.Size != f.Size {
		return api.ErrArg
	}
	if m.done {
		return api.OK
	}
	if len(m.rows) == m.most {
		m.over = true
		return api.ErrFull
	}
	m.rows = append(m.rows, api.Row{Vec: slices.Clone(p.Row.Vec), Data: strings.Clone(p.Row.Data)})
	if m.rank() == p.K {
		blocks, _ := gauss.Decode(p.K, m.rows)
		m.text, _ = split.Join(blocks, p.Len)
		m.done = true
	}
	return api.OK
}

// rank tells how many rows are left, once each is set against those ahead of it: by bools, highest bits first.
func (m *model) rank() int {
	lead := map[int][]bool{}
	for _, r := range m.rows {
		row := make([]bool, 128)
		for _, i := range bits(r.Vec) {
			row[i] = true
		}
		for i := 127; i >= 0; i-- {
			if !row[i] {
				continue
			}
			other, is := lead[i]
			if !is {
				lead[i] = row
				break
			}
			for j := range row {
				row[j] = row[j] != other[j]
			}
		}
	}
	return len(lead)
}

// told is all that a decoder tells.
type told struct {
	rank, kept int
	done, over bool
	object     string
}

func tell(d *decoder.Decoder) told {
	return told{d.Rank(), d.Kept(), d.Done(), d.Over(), d.Object()}
}

func (m *model) tell() told {
	return told{m.rank(), len(m.rows), m.done, m.over, m.text}
}

// check holds what a decoder tells against the model.
func check(t *testing.T, name string, d *decoder.Decoder, m *model) {
	t.Helper()
	if got, want := tell(d), m.tell(); got != want {
		t.Errorf("%s: %+v, not %+v", name, got, want)
	}
}

// put puts p into both, and holds what both tell against each other.
func put(t *testing.T, name string, d *decoder.Decoder, m *model, p api.Packet) {
	t.Helper()
	if got, want := d.Put(p), m.put(p); got != want {
		t.Errorf("%s: Put of %+v is %d, not %d", name, p, got, want)
	}
	check(t, name, d, m)
}

// step is a Put and what is told behind it.
type step struct {
	p   api.Packet
	err api.Errno
	told
}

// with gives p, changed.
func with(p api.Packet, change func(*api.Packet)) api.Packet {
	p.Row.Vec = slices.Clone(p.Row.Vec)
	change(&p)
	return p
}

// TestSteps: fixed decoders, packet by packet, all told at each step.
func TestSteps(t *testing.T) {
	otherLen := of(1, 2, 1, "a")
	for _, c := range []struct {
		name  string
		most  int
		steps []step
	}{
		{"the chapter's example", 2, []step{
			{ab(1, "a"), api.OK, told{1, 1, false, false, ""}},
			{ab(3, "\x03"), api.OK, told{2, 2, true, false, "ab"}},
		}},
		{"the other way round", 2, []step{
			{ab(3, "\x03"), api.OK, told{1, 1, false, false, ""}},
			{ab(1, "a"), api.OK, told{2, 2, true, false, "ab"}},
		}},
		{"one block", 1, []step{
			{of(1, 1, 1, "x"), api.OK, told{1, 1, true, false, "x"}},
			{of(1, 1, 1, "y"), api.OK, told{1, 1, true, false, "x"}},
			{of(0, 1, 1, "x"), api.ErrArg, told{1, 1, true, false, "x"}},
		}},
		{"an empty object", 2, []step{
			{of(0, 2, 2, "x"), api.OK, told{1, 1, false, false, ""}},
			{of(0, 2, 1, "y"), api.OK, told{2, 2, true, false, ""}},
			{of(0, 2, 1, "y"), api.OK, told{2, 2, true, false, ""}},
			{of(1, 2, 1, "y"), api.ErrArg, told{2, 2, true, false, ""}},
		}},
		{"no room", 0, []step{
			{api.Packet{}, api.ErrArg, told{}},
			{ab(4, "a"), api.ErrArg, told{}},
			{ab(1, "a"), api.ErrFull, told{0, 0, false, true, ""}},
			{ab(1, "a"), api.ErrFull, told{0, 0, false, true, ""}},
			{otherLen, api.ErrArg, told{0, 0, false, true, ""}},
			{ab(3, "\x03"), api.ErrFull, told{0, 0, false, true, ""}},
			{api.Packet{}, api.ErrArg, told{0, 0, false, true, ""}},
		}},
		{"a packet too many, ahead of the rank", 2, []step{
			{ab(3, "\x03"), api.OK, told{1, 1, false, false, ""}},
			{ab(3, "\x03"), api.OK, told{1, 2, false, false, ""}},
			{otherLen, api.ErrArg, told{1, 2, false, false, ""}},
			{ab(0, "a"), api.ErrArg, told{1, 2, false, false, ""}},
			{ab(1, "a"), api.ErrFull, told{1, 2, false, true, ""}},
			{otherLen, api.ErrArg, told{1, 2, false, true, ""}},
			{ab(2, "b"), api.ErrFull, told{1, 2, false, true, ""}},
		}},
		{"just enough room: behind Done none is too many", 2, []step{
			{ab(2, "b"), api.OK, told{1, 1, false, false, ""}},
			{ab(1, "a"), api.OK, told{2, 2, true, false, "ab"}},
			{ab(3, "\x03"), api.OK, told{2, 2, true, false, "ab"}},
			{ab(1, "z"), api.OK, told{2, 2, true, false, "ab"}},
			{ab(4, "a"), api.ErrArg, told{2, 2, true, false, "ab"}},
			{otherLen, api.ErrArg, told{2, 2, true, false, "ab"}},
			{api.Packet{}, api.ErrArg, told{2, 2, true, false, "ab"}},
		}},
		{"packets that are there twice", 5, []step{
			{ab(3, "\x03"), api.OK, told{1, 1, false, false, ""}},
			{ab(3, "\x03"), api.OK, told{1, 2, false, false, ""}},
			{ab(3, "\x03"), api.OK, told{1, 3, false, false, ""}},
			{ab(2, "b"), api.OK, told{2, 4, true, false, "ab"}},
			{ab(2, "b"), api.OK, told{2, 4, true, false, "ab"}},
		}},
		{"wrong ones ahead of the first are not like anything", 2, []step{
			{with(of(3, 3, 1, "z"), func(p *api.Packet) { p.Hops = 16 }), api.ErrArg, told{}},
			{with(ab(1, "a"), func(p *api.Packet) { p.Row.Data = "" }), api.ErrArg, told{}},
			{of(5, 2, 1, "a"), api.ErrArg, told{}},
			{ab(1, "a"), api.OK, told{1, 1, false, false, ""}},
			{of(3, 3, 1, "z"), api.ErrArg, told{1, 1, false, false, ""}},
			{ab(2, "b"), api.OK, told{2, 2, true, false, "ab"}},
		}},
		{"of no object: peeling goes ahead of the first rows", 9, []step{
			// Rows 7 and 11 are ahead of 12, and make it; peeled, 12 tells block 3 once 4 has told block 2.
			{of(4, 4, 7, "\x10"), api.OK, told{1, 1, false, false, ""}},
			{of(4, 4, 11, "\x20"), api.OK, told{2, 2, false, false, ""}},
			{of(4, 4, 12, "\x01"), api.OK, told{2, 3, false, false, ""}},
			{of(4, 4, 4, "c"), api.OK, told{3, 4, false, false, ""}},
			{of(4, 4, 1, "a"), api.OK, told{4, 5, true, false, "a\x12cb"}},
			{of(4, 4, 8, "z"), api.OK, told{4, 5, true, false, "a\x12cb"}},
		}},
		{"of no object: the first of two that say otherwise", 9, []step{
			{ab(1, "a"), api.OK, told{1, 1, false, false, ""}},
			{ab(1, "z"), api.OK, told{1, 2, false, false, ""}},
			{ab(3, "\x03"), api.OK, told{2, 3, true, false, "ab"}},
		}},
	} {
		d := decoder.New(c.most)
		if got := tell(d); got != (told{}) {
			t.Errorf("%s: a new decoder tells %+v", c.name, got)
		}
		for i, s := range c.steps {
			if err := d.Put(s.p); err != s.err || tell(d) != s.told {
				t.Errorf("%s, step %d: %d and %+v, not %d and %+v", c.name, i, err, tell(d), s.err, s.told)
			}
		}
	}
}

// TestPeeledIsNotSolved: the list of no object above is one that elimination alone tells otherwise, so that it is seen which of both is asked.
func TestPeeledIsNotSolved(t *testing.T) {
	rows := []api.Row{{Vec: []uint64{7}, Data: "\x10"}, {Vec: []uint64{11}, Data: "\x20"}, {Vec: []uint64{12}, Data: "\x01"}, {Vec: []uint64{4}, Data: "c"}, {Vec: []uint64{1}, Data: "a"}}
	solved, _ := gauss.Solve(4, rows)
	if text := strings.Join(solved, ""); text == "a\x12cb" {
		t.Errorf("%q", text)
	}
}

// TestMost: room for as many packets as the bound says and no more, at its edges and far beyond them.
func TestMost(t *testing.T) {
	for _, c := range []struct{ most, room int }{
		{math.MinInt, 0}, {math.MinInt + 1, 0}, {-1 << 32, 0}, {-257, 0}, {-256, 0}, {-1, 0}, {0, 0}, {1, 1}, {2, 2}, {127, 127}, {128, 128}, {129, 129},
		{255, 255}, {256, 256}, {257, 256}, {258, 256}, {512, 256}, {1 << 31, 256}, {1<<32 - 1, 256}, {1 << 32, 256}, {1<<32 + 1, 256}, {math.MaxInt - 1, 256}, {math.MaxInt, 256},
	} {
		d := decoder.New(c.most)
		for i := range 300 {
			want := api.OK
			if i >= c.room {
				want = api.ErrFull
			}
			if got := d.Put(ab(3, "\x03")); got != want {
				t.Fatalf("most %d: packet %d is %d, not %d", c.most, i, got, want)
			}
			if got, want := tell(d), (told{min(1, c.room), min(i+1, c.room), false, i >= c.room, ""}); got != want {
				t.Fatalf("most %d: behind packet %d it tells %+v, not %+v", c.most, i, got, want)
			}
		}
		if got := d.Put(ab(1, "a")); got != api.ErrFull || d.Done() {
			t.Errorf("most %d: behind all of them %d, and Done %t", c.most, got, d.Done())
		}
	}
}

// TestRoomForAll: K rows tell the object where there is room for just K, and not where there is room for one less.
func TestRoomForAll(t *testing.T) {
	for k := 1; k <= api.MaxK; k++ {
		text := sample(k)
		for _, most := range []int{k - 1, k} {
			d := decoder.New(most)
			for i := range k {
				want := api.OK
				if i >= most {
					want = api.ErrFull
				}
				if got := d.Put(truth(text, k, 1, i)); got != want {
					t.Fatalf("k %d, most %d: block %d is %d", k, most, i, got)
				}
			}
			want := told{most, most, false, true, ""}
			if most == k {
				want = told{k, k, true, false, text}
			}
			if got := tell(d); got != want {
				t.Errorf("k %d, most %d: %+v, not %+v", k, most, got, want)
			}
		}
	}
}

// faults gives, of a packet that is right, those that chapter 7's Check refuses, each by one thing alone.
func faults(p api.Packet) map[string]api.Packet {
	vec, data := p.Row.Vec, p.Row.Data
	whole := p.K * p.Size
	out := map[string]api.Packet{
		"no packet":       {},
		"Object below 0":  with(p, func(p *api.Packet) { p.Object = -1 }),
		"Object least":    with(p, func(p *api.Packet) { p.Object = math.MinInt }),
		"Object beyond":   with(p, func(p *api.Packet) { p.Object = 1 << 32 }),
		"Object greatest": with(p, func(p *api.Packet) { p.Object = math.MaxInt }),
		"Len below 0":     with(p, func(p *api.Packet) { p.Len = -1 }),
		"Len least":       with(p, func(p *api.Packet) { p.Len = math.MinInt }),
		"Len beyond":      with(p, func(p *api.Packet) { p.Len = whole + 1 }),
		"Len greatest":    with(p, func(p *api.Packet) { p.Len = math.MaxInt }),
		"K 0":             with(p, func(p *api.Packet) { p.K, p.Len = 0, 0 }),
		"K below 0":       with(p, func(p *api.Packet) { p.K = -1 }),
		"K least":         with(p, func(p *api.Packet) { p.K = math.MinInt }),
		"K beyond":        with(p, func(p *api.Packet) { p.K = 129 }),
		"K greatest":      with(p, func(p *api.Packet) { p.K = math.MaxInt }),
		"Size 0":          with(p, func(p *api.Packet) { p.Size, p.Len, p.Row.Data = 0, 0, "" }),
		"Size below 0":    with(p, func(p *api.Packet) { p.Size = -1 }),
		"Size beyond":     with(p, func(p *api.Packet) { p.Size, p.Row.Data = 65, strings.Repeat("x", 65) }),
		"Size greatest":   with(p, func(p *api.Packet) { p.Size = math.MaxInt }),
		"Hops below 0":    with(p, func(p *api.Packet) { p.Hops = -1 }),
		"Hops beyond":     with(p, func(p *api.Packet) { p.Hops = 16 }),
		"Hops greatest":   with(p, func(p *api.Packet) { p.Hops = math.MaxInt }),
		"Vec nil":         with(p, func(p *api.Packet) { p.Row.Vec = nil }),
		"Vec a word less": with(p, func(p *api.Packet) { p.Row.Vec = p.Row.Vec[:len(vec)-1] }),
		"Vec a word more": with(p, func(p *api.Packet) { p.Row.Vec = append(p.Row.Vec, 0) }),
		"Vec of no bit":   with(p, func(p *api.Packet) { clear(p.Row.Vec) }),
		"Data empty":      with(p, func(p *api.Packet) { p.Row.Data = "" }),
		"Data less":       with(p, func(p *api.Packet) { p.Row.Data = data[1:] }),
		"Data more":       with(p, func(p *api.Packet) { p.Row.Data += "x" }),
	}
	if p.K%64 != 0 {
		out["Vec of a block beyond"] = with(p, func(p *api.Packet) { p.Row.Vec[p.K/64] |= 1 << (p.K % 64) })
	}
	return out
}

// others gives, of a packet that is right, right ones of which just one of Object, Len, K, Size is another.
func others(p api.Packet) map[string]api.Packet {
	return map[string]api.Packet{
		"Object 0":       with(p, func(p *api.Packet) { p.Object = 0 }),
		"Object more":    with(p, func(p *api.Packet) { p.Object++ }),
		"Object in 2^32": with(p, func(p *api.Packet) { p.Object ^= 1 << 31 }),
		"Len less":       with(p, func(p *api.Packet) { p.Len-- }),
		"Len more":       with(p, func(p *api.Packet) { p.Len++ }),
		"Len 0":          with(p, func(p *api.Packet) { p.Len = 0 }),
		"K less":         with(p, func(p *api.Packet) { p.K-- }),
		"K more":         with(p, func(p *api.Packet) { p.K++ }),
		"Size less":      with(p, func(p *api.Packet) { p.Size, p.Row.Data = p.Size-1, p.Row.Data[1:] }),
		"Size more":      with(p, func(p *api.Packet) { p.Size, p.Row.Data = p.Size+1, p.Row.Data+"x" }),
	}
}

// filled gives decoders that have come some way with packets like p, of three blocks or more, and their models.
func filled(t *testing.T, p api.Packet) map[string]func() (*decoder.Decoder, *model) {
	after := func(most, n int) func() (*decoder.Decoder, *model) {
		return func() (*decoder.Decoder, *model) {
			d, m := decoder.New(most), modelled(most)
			for i := range n {
				put(t, "filling", d, m, with(p, func(p *api.Packet) {
					clear(p.Row.Vec)
					block := i % p.K
					p.Row.Vec[block/64] = 1 << (block % 64)
				}))
			}
			return d, m
		}
	}
	return map[string]func() (*decoder.Decoder, *model){
		"behind one packet":         after(9, 1),
		"behind two":                after(9, 2),
		"just full":                 after(1, 1),
		"over":                      after(1, 2),
		"where the first had none":  after(0, 1),
		"where all had none":        after(0, 3),
		"behind Done":               after(p.K, p.K),
		"behind Done and some more": after(200, p.K+2),
	}
}

// TestFaults: packets that Check refuses are ErrArg, first and later, and change nothing.
func TestFaults(t *testing.T) {
	for _, k := range []int{3, 5, 64, 65, 70, 128} {
		p := of(5, k, 5, "xyz")
		for name, bad := range faults(p) {
			for _, most := range []int{-1, 0, 1, 256} {
				d, m := decoder.New(most), modelled(most)
				for range 2 {
					if got := d.Put(bad); got != api.ErrArg || tell(d) != (told{}) {
						t.Errorf("k %d, most %d: %s first is %d, and %+v is told", k, most, name, got, tell(d))
					}
				}
				// It was no first packet: another object's is.
				put(t, name, d, m, with(p, func(p *api.Packet) { p.Object, p.Len = 9, 4 }))
				put(t, name, d, m, p)
			}
			for where, make := range filled(t, p) {
				d, m := make()
				was := tell(d)
				if got := d.Put(bad); got != api.ErrArg || tell(d) != was {
					t.Errorf("k %d, %s %s is %d, and %+v is told, not %+v", k, name, where, got, tell(d), was)
				}
				put(t, name, d, m, p)
			}
		}
	}
}

// TestOthers: packets of another Object, Len, K or Size are ErrArg, each by itself; they change nothing, and as first ones they were right.
func TestOthers(t *testing.T) {
	for _, k := range []int{3, 5, 66, 126} {
		p := of(5, k, 1, "xyz")
		for name, other := range others(p) {
			if !sound(other) {
				t.Fatalf("k %d: %s is refused for itself", k, name)
			}
			if got := decoder.New(1).Put(other); got != api.OK {
				t.Errorf("k %d: %s first is %d", k, name, got)
			}
			for where, make := range filled(t, p) {
				d, m := make()
				was := tell(d)
				for range 2 {
					if got := d.Put(other); got != api.ErrArg || tell(d) != was {
						t.Errorf("k %d, %s %s is %d, and %+v is told, not %+v", k, name, where, got, tell(d), was)
					}
				}
				put(t, name, d, m, p)
			}
			// And the other way round: the packet is not like the other, were there room for neither.
			for _, most := range []int{0, 1, 9} {
				d, m := decoder.New(most), modelled(most)
				for _, q := range []api.Packet{other, p, other, p} {
					put(t, name, d, m, q)
				}
			}
		}
	}
}

// TestOtherWords: of K at the edge of a word, packets of the K beside it, with the words that these have.
func TestOtherWords(t *testing.T) {
	p, q := of(5, 64, 1, "xyz"), of(5, 65, 1, "xyz")
	for _, c := range [][]api.Packet{{p, q, p, q}, {q, p, q, p}} {
		for _, most := range []int{0, 1, 2} {
			d, m := decoder.New(most), modelled(most)
			for _, one := range c {
				put(t, "at a word's edge", d, m, one)
			}
		}
	}
}

// TestHops: through how many relays a packet came makes no difference.
func TestHops(t *testing.T) {
	d := decoder.New(256)
	for hops := range 16 {
		if got := d.Put(with(ab(3, "\x03"), func(p *api.Packet) { p.Hops = hops })); got != api.OK || d.Kept() != hops+1 {
			t.Errorf("hops %d: %d, and %d are kept", hops, got, d.Kept())
		}
	}
	if got := d.Put(with(ab(1, "a"), func(p *api.Packet) { p.Hops = 7 })); got != api.OK || d.Object() != "ab" {
		t.Errorf("%d, %q", got, d.Object())
	}
}

// TestNumbers: objects' numbers at their edges are as good as any.
func TestNumbers(t *testing.T) {
	for _, id := range []int{0, 1, 1<<31 - 1, 1 << 31, 1<<32 - 2, 1<<32 - 1} {
		d, m := decoder.New(2), modelled(2)
		for _, p := range []api.Packet{ab(1, "a"), ab(3, "\x03"), ab(2, "b")} {
			p.Object = id
			put(t, "numbers", d, m, p)
			p.Object = id ^ 1
			put(t, "numbers", d, m, p)
		}
		if d.Object() != "ab" {
			t.Errorf("object %d is %q", id, d.Object())
		}
	}
}

// sample gives a text of n bytes that are not all alike.
func sample(n int) string {
	out := make([]byte, n)
	for i := range out {
		out[i] = byte(i*31 + 7)
	}
	return string(out)
}

// truth gives the packet of those blocks of text, told plainly: byte by byte.
func truth(text string, k, size int, blocks ...int) api.Packet {
	whole := text + strings.Repeat("\x00", k*size-len(text))
	v, data := make([]uint64, (k+63)/64), make([]byte, size)
	for _, b := range blocks {
		v[b/64] ^= 1 << (b % 64)
		for i := range data {
			data[i] ^= whole[b*size+i]
		}
	}
	return api.Packet{Object: 1, Len: len(text), K: k, Size: size, Row: api.Row{Vec: v, Data: string(data)}}
}

// lists gives, for k blocks, which blocks packets have that tell all: the last one of each list is the one that does.
func lists(k int) map[string][][]int {
	out := map[string][][]int{}
	add := func(name string, blocks ...int) { out[name] = append(out[name], blocks) }
	for i := range k {
		add("units", i)
		add("units backward", k-1-i)
	}
	// One after the other tells the next; where the end comes first, nothing is told until the last one.
	add("chain", 0)
	for i := 1; i < k; i++ {
		add("chain", i-1, i)
		add("chain, its end first", k-i-1, k-i)
	}
	add("chain, its end first", 0)
	if k < 3 {
		return out
	}
	// No packet of one block: pairs and one of three, which elimination alone can tell.
	for i := range k - 1 {
		add("elimination", i, i+1)
	}
	add("elimination", 0, 1, k-1)
	if k < 5 {
		return out
	}
	// Blocks 0 and 1 are peeled; of the others there are pairs and one of three, some twice.
	add("both", 0, 1)
	for i := 2; i < k-1; i++ {
		add("both", i, i+1)
		add("both", 0, i, i+1)
	}
	add("both", 0)
	add("both", 0, 1, 2, 3, k-1)
	return out
}

// whole puts packets of these blocks, and holds that the object is told just behind the last one.
func whole(t *testing.T, name, text string, k, size int, list [][]int) {
	t.Helper()
	d := decoder.New(api.MaxCap)
	for i, blocks := range list {
		if d.Done() || d.Object() != "" {
			t.Fatalf("%s: k %d, size %d, %d bytes: told ahead of packet %d", name, k, size, len(text), i)
		}
		if got := d.Put(truth(text, k, size, blocks...)); got != api.OK {
			t.Fatalf("%s: k %d, size %d, %d bytes: packet %d is %d", name, k, size, len(text), i, got)
		}
	}
	if got, want := tell(d), (told{k, len(list), true, false, text}); got != want {
		t.Fatalf("%s: k %d, size %d, %d bytes: %+v, not %+v", name, k, size, len(text), got, want)
	}
}

// TestEveryLength: every length that so many blocks may have, were it shorter than all but the last of them.
func TestEveryLength(t *testing.T) {
	for k := 1; k <= 7; k++ {
		for _, size := range []int{1, 2, 3, 7} {
			for n := range k*size + 1 {
				for name, list := range lists(k) {
					whole(t, name, sample(n), k, size, list)
				}
			}
		}
	}
}

// TestLastBlock: at each size of a block, each size of the last one.
func TestLastBlock(t *testing.T) {
	for size := 1; size <= api.MaxBlock; size++ {
		for last := range size + 1 {
			for name, list := range lists(5) {
				whole(t, name, sample(4*size+last), 5, size, list)
			}
		}
	}
}

// TestEachK: every number of blocks, by each way to tell them.
func TestEachK(t *testing.T) {
	for k := 1; k <= api.MaxK; k += 1 + k/40 {
		for name, list := range lists(k) {
			whole(t, name, sample(k*2-1), k, 2, list)
		}
	}
	for _, k := range []int{63, 64, 65, 127, 128} {
		for name, list := range lists(k) {
			whole(t, name, sample(k*64), k, 64, list)
		}
	}
}

// orders gives all orders of n places.
func orders(n int) [][]int {
	if n == 0 {
		return [][]int{nil}
	}
	var out [][]int
	for _, order := range orders(n - 1) {
		for at := range n {
			out = append(out, slices.Insert(slices.Clone(order), at, n-1))
		}
	}
	return out
}

// TestAllOrders: packets that are true of an object tell it, in whatever order they come, as soon as their rank is full.
func TestAllOrders(t *testing.T) {
	text := "abcdefg"
	for _, list := range [][][]int{
		{{0}, {1}, {2}, {3}, {0, 1}},
		{{0}, {0, 1}, {1, 2}, {2, 3}, {0, 3}},
		{{0, 1}, {1, 2}, {0, 1, 2}, {2, 3}, {0, 1, 2, 3}},
		{{0}, {0, 1}, {1, 2, 3}, {2, 3}, {2}, {0, 1, 2, 3}},
	} {
		for _, order := range orders(len(list)) {
			d, m := decoder.New(9), modelled(9)
			for _, i := range order {
				put(t, "all orders", d, m, truth(text, 4, 2, list[i]...))
				if d.Done() != (d.Rank() == 4) {
					t.Errorf("order %v: rank %d, and Done %t", order, d.Rank(), d.Done())
				}
			}
			if !d.Done() || d.Object() != text {
				t.Fatalf("order %v: %t, %q", order, d.Done(), d.Object())
			}
		}
	}
}

// TestBehindDone: whatever comes behind, nothing is kept and the object stays; what is wrong is told still.
func TestBehindDone(t *testing.T) {
	for _, most := range []int{3, 4, 256, math.MaxInt} {
		d := decoder.New(most)
		for i := range 3 {
			d.Put(truth("abcde", 3, 2, i))
		}
		was := told{3, 3, true, false, "abcde"}
		right := truth("zzzzz", 3, 2, 1)
		for range 300 {
			if got := d.Put(right); got != api.OK || tell(d) != was {
				t.Fatalf("most %d: %d and %+v", most, got, tell(d))
			}
		}
		for name, bad := range faults(right) {
			if got := d.Put(bad); got != api.ErrArg || tell(d) != was {
				t.Errorf("most %d: %s is %d, and %+v", most, name, got, tell(d))
			}
		}
		for name, other := range others(right) {
			if got := d.Put(other); got != api.ErrArg || tell(d) != was {
				t.Errorf("most %d: %s is %d, and %+v", most, name, got, tell(d))
			}
		}
	}
}

// TestNil: on a nil decoder Put tells ErrArg, whatever the packet; the others tell zero values.
func TestNil(t *testing.T) {
	var d *decoder.Decoder
	for range 2 {
		for _, p := range []api.Packet{{}, ab(1, "a"), ab(3, "\x03"), of(1, 1, 1, "a")} {
			if got := d.Put(p); got != api.ErrArg {
				t.Errorf("Put of %+v is %d", p, got)
			}
			if got := tell(d); got != (told{}) {
				t.Errorf("nil tells %+v", got)
			}
		}
	}
}

// TestNew: a decoder is there at whatever bound, has nothing, and shares nothing with another.
func TestNew(t *testing.T) {
	for _, most := range []int{math.MinInt, -1, 0, 1, 256, 257, math.MaxInt} {
		one, two := decoder.New(most), decoder.New(most)
		if one == nil || two == nil || one == two {
			t.Fatalf("New(%d): %p, %p", most, one, two)
		}
		one.Put(ab(1, "a"))
		one.Put(ab(2, "b"))
		if got := tell(two); got != (told{}) {
			t.Errorf("New(%d): behind packets into another %+v", most, got)
		}
		// Of another object, for this one had no first packet yet.
		if got := two.Put(of(3, 3, 1, "a")); got == api.ErrArg {
			t.Errorf("New(%d): the first packet is %d", most, got)
		}
	}
}

// TestEachShortList: every list of up to 5 of some packets, right and wrong, into every small decoder.
func TestEachShortList(t *testing.T) {
	packets := []api.Packet{ab(1, "a"), ab(2, "b"), ab(3, "\x03"), ab(3, "z"), ab(4, "a"), of(1, 2, 1, "a"), of(1, 1, 1, "a"), {}}
	for most := -1; most <= 4; most++ {
		for code := range 8 * 8 * 8 * 8 * 8 {
			d, m := decoder.New(most), modelled(most)
			for rest, n := code, 0; n < 5; rest, n = rest/8, n+1 {
				put(t, "short list", d, m, packets[rest%8])
			}
			if t.Failed() {
				t.Fatalf("most %d, list %o", most, code)
			}
		}
	}
}

// some gives blocks as chance has them, at least one.
func some(r *rand.Rand, k int) []int {
	out := []int{r.IntN(k)}
	for r.IntN(3) > 0 && len(out) < 6 {
		out = append(out, r.IntN(k))
	}
	slices.Sort(out)
	return slices.Compact(out)
}

// spoilt gives p with something as chance has it: a fault, another object's packet, or a text that is not true.
func spoilt(r *rand.Rand, p api.Packet) api.Packet {
	all := faults(p)
	names := slices.Sorted(maps.Keys(all))
	switch r.IntN(7) {
	case 0:
		return all[names[r.IntN(len(names))]]
	case 1:
		p.Object ^= 1
	case 2:
		p.Len ^= 1
	case 3:
		p.K = 1 + r.IntN(128)
	case 4:
		p.Size = 1 + r.IntN(64)
		p.Row.Data = sample(p.Size)
	case 5:
		p.Hops = r.IntN(18)
	case 6:
		text := []byte(p.Row.Data)
		text[r.IntN(len(text))] ^= byte(1 + r.IntN(255))
		p.Row.Data = string(text)
	}
	return p
}

// TestAny: packets as chance has them, mostly right, and true or not, into decoders of any bound.
func TestAny(t *testing.T) {
	r := rand.New(rand.NewPCG(16, 1))
	seen := map[api.Errno]int{}
	done := 0
	for round := range 300 {
		k, size := 1+r.IntN(24), 1+r.IntN(8)
		if round%10 == 0 {
			k = 60 + r.IntN(69)
		}
		most := k + r.IntN(3*k) - k/2
		text := sample(r.IntN(k*size + 1))
		d, m := decoder.New(most), modelled(most)
		for range most + k {
			p := truth(text, k, size, some(r, k)...)
			if r.IntN(4) == 0 {
				p = spoilt(r, p)
			}
			got, want := d.Put(p), m.put(p)
			if got != want {
				t.Fatalf("round %d: Put of %+v is %d, not %d", round, p, got, want)
			}
			seen[got]++
			if r.IntN(4) == 0 || m.done {
				check(t, "any", d, m)
			}
		}
		check(t, "any", d, m)
		if t.Failed() {
			t.Fatalf("round %d", round)
		}
		if m.done {
			done++
		}
	}
	if done < 50 || seen[api.OK] < 500 || seen[api.ErrArg] < 500 || seen[api.ErrFull] < 500 {
		t.Errorf("%d done, %v", done, seen)
	}
}

// TestTrueOnes: of packets that are all true, the object is told just if the rank is K, and is the source's.
func TestTrueOnes(t *testing.T) {
	r := rand.New(rand.NewPCG(16, 2))
	for range 200 {
		k, size := 1+r.IntN(40), 1+r.IntN(10)
		text := sample(r.IntN(k*size + 1))
		d, m := decoder.New(256), modelled(256)
		for range 256 {
			p := truth(text, k, size, some(r, k)...)
			if got, want := d.Put(p), m.put(p); got != want {
				t.Fatalf("Put of %+v is %d, not %d", p, got, want)
			}
			if d.Done() != (m.rank() == k) {
				t.Fatalf("rank %d of %d, and Done %t", m.rank(), k, d.Done())
			}
			if want := map[bool]string{true: text}[d.Done()]; d.Object() != want {
				t.Fatalf("%q, not %q", d.Object(), want)
			}
			if d.Done() {
				break
			}
		}
	}
}

// TestOfNoObject: rows of rank K whose texts are as chance has them: Object is Join of Decode of just what was kept.
func TestOfNoObject(t *testing.T) {
	r := rand.New(rand.NewPCG(16, 3))
	apart := 0
	for range 400 {
		k, size := 1+r.IntN(10), 1+r.IntN(4)
		length := r.IntN(k*size + 1)
		d := decoder.New(256)
		var rows []api.Row
		for !d.Done() && len(rows) < 256 {
			p := truth(sample(length), k, size, some(r, k)...)
			text := make([]byte, size)
			for i := range text {
				text[i] = byte(r.Uint64())
			}
			p.Row.Data = string(text)
			rows = append(rows, p.Row)
			if got := d.Put(p); got != api.OK {
				t.Fatalf("%d", got)
			}
		}
		blocks, all := gauss.Decode(k, rows)
		want, err := split.Join(blocks, length)
		if !all || err != api.OK || !d.Done() || d.Object() != want {
			t.Fatalf("%x, rows %x: %t, %q, not %q", k, rows, d.Done(), d.Object(), want)
		}
		if solved, _ := gauss.Solve(k, rows); !slices.Equal(solved, blocks) {
			apart++
		}
	}
	if apart < 10 {
		t.Errorf("only %d lists are told otherwise by elimination alone", apart)
	}
}

// TestHandedIn (R4): a packet is as it was, with what lies behind its row's end; and what becomes of it later is not seen.
func TestHandedIn(t *testing.T) {
	for _, most := range []int{0, 1, 65, 256} {
		d, m := decoder.New(most), modelled(most)
		for i := range 66 {
			p := truth(sample(65*3), 65, 3, i%65)
			vec := []uint64{77, p.Row.Vec[0], p.Row.Vec[1], 78}
			text := []byte("-" + p.Row.Data + "-")
			was := string(text)
			p.Row = api.Row{Vec: vec[1:3], Data: unsafe.String(&text[1], 3)}
			put(t, "handed in", d, m, p)
			put(t, "handed in", d, m, with(p, func(q *api.Packet) { q.Row.Vec = vec[1:4] }))
			put(t, "handed in", d, m, with(p, func(q *api.Packet) { q.Len-- }))
			if unit := truth(sample(65*3), 65, 3, i%65).Row.Vec; !slices.Equal(vec, []uint64{77, unit[0], unit[1], 78}) || string(text) != was {
				t.Errorf("most %d: a row and what lies around it became %x, %q", most, vec, text)
			}
			// The model's first packet is read for its numbers alone, its rows are copies.
			clear(vec)
			copy(text, "spoil")
			check(t, "spoilt behind Put", d, m)
		}
		if most >= 65 && d.Object() != sample(65*3) {
			t.Errorf("most %d: %x", most, d.Object())
		}
	}
}

// TestHandedOut (R4): no two answers of Object lie in the same memory, nor in what was handed in; what is done to one is not seen in another.
func TestHandedOut(t *testing.T) {
	for k := 1; k <= 3; k++ {
		d := decoder.New(9)
		text := strings.Clone(sample(4 * k))
		texts := []string{text}
		for i := range k {
			p := truth(text, k, 4, i)
			p.Row.Data = text[4*i : 4*i+4]
			if got := d.Put(p); got != api.OK {
				t.Fatalf("%d", got)
			}
		}
		texts = append(texts, d.Object(), d.Object(), d.Object())
		whose := map[*byte]int{}
		for place, text := range texts {
			for i := range len(text) {
				at := unsafe.StringData(text[i:])
				if other, is := whose[at]; is {
					t.Errorf("texts %d and %d share memory", other, place)
				}
				whose[at] = place
			}
		}
		one := d.Object()
		clear(unsafe.Slice(unsafe.StringData(one), len(one)))
		if got := d.Object(); got != text || texts[1] != text {
			t.Errorf("%x and %x, not %x", got, texts[1], text)
		}
	}
}

// TestAgain (R5): the same packets into another decoder give the same, whatever is asked between and whatever other decoders hold.
func TestAgain(t *testing.T) {
	r := rand.New(rand.NewPCG(16, 4))
	for range 60 {
		k, size := 1+r.IntN(12), 1+r.IntN(4)
		most := r.IntN(4 * k)
		text := sample(r.IntN(k*size + 1))
		one, two, other := decoder.New(most), decoder.New(most), decoder.New(most+1)
		m := modelled(most)
		for range 3*k + 5 {
			p := truth(text, k, size, some(r, k)...)
			if r.IntN(3) == 0 {
				p = spoilt(r, p)
			}
			a := one.Put(p)
			other.Put(truth(text, k, size, some(r, k)...))
			for range 3 {
				tell(two)
			}
			b := two.Put(p)
			if want := m.put(p); a != want || b != want {
				t.Fatalf("Put of %+v is %d and %d, not %d", p, a, b, want)
			}
		}
		for range 2 {
			check(t, "one", one, m)
			check(t, "two", two, m)
		}
	}
}
