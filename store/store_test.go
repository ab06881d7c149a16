package store_test

import (
	"math"
	"math/rand/v2"
	"slices"
	"strings"
	"testing"
	"unsafe"

	"bucketline/api"
	"bucketline/store"
)

const all = ^uint64(0)

// eq gives a row of one word.
func eq(bits uint64, data string) api.Row { return api.Row{Vec: []uint64{bits}, Data: data} }

// wide gives a row of several words.
func wide(data string, v ...uint64) api.Row { return api.Row{Vec: v, Data: data} }

// of gives a row of those of k blocks.
func of(k int, data string, blocks ...int) api.Row {
	v := make([]uint64, (k+63)/64)
	for _, i := range blocks {
		v[i/64] |= 1 << (i % 64)
	}
	return api.Row{Vec: v, Data: data}
}

// model is a store, told by the chapter's words.
type model struct {
	k, size, most int
	rows          []api.Row
	over          bool
}

func modelled(k, size, most int) *model {
	switch {
	case most < 0:
		most = 0
	case most > 256:
		most = 256
	}
	return &model{k: k, size: size, most: most}
}

// bits gives the places of v's bits.
func bits(v []uint64) []int {
	var out []int
	for i := range len(v) * 64 {
		if v[i/64]>>(i%64)&1 == 1 {
			out = append(out, i)
		}
	}
	return out
}

// fits tells whether r is one that the chapter allows: of k blocks (as chapter 1 says it), with a bit, of size bytes.
func (m *model) fits(r api.Row) bool {
	b := bits(r.Vec)
	return m.k >= 1 && m.k <= 128 && len(r.Vec) == (m.k+63)/64 && len(b) > 0 && b[len(b)-1] < m.k && len(r.Data) == m.size
}

func (m *model) put(r api.Row) api.Errno {
	if !m.fits(r) {
		return api.ErrArg
	}
	if len(m.rows) == m.most {
		m.over = true
		return api.ErrFull
	}
	m.rows = append(m.rows, copied(r))
	return api.OK
}

// rank tells how many rows are left, once each is set against those ahead of it: by bools, highest bits first.
func (m *model) rank() int {
	lead := map[int][]bool{}
	for _, r := range m.rows {
		row := make([]bool, 128)
		for _, i := range bits(r.Vec) {
			row[i] = true
		}
		for i := 127; i >= 0; i-- {
			if !row[i] {
				continue
			}
			other, is := lead[i]
			if !is {
				lead[i] = row
				break
			}
			for j := range row {
				row[j] = row[j] != other[j]
			}
		}
	}
	return len(lead)
}

func copied(r api.Row) api.Row {
	return api.Row{Vec: slices.Clone(r.Vec), Data: strings.Clone(r.Data)}
}

// same tells whether rows are alike, words and texts.
func same(a, b []api.Row) bool {
	return slices.EqualFunc(a, b, func(r, s api.Row) bool { return slices.Equal(r.Vec, s.Vec) && r.Data == s.Data })
}

// check holds what a store tells against the model.
func check(t *testing.T, name string, s *store.Store, m *model) {
	t.Helper()
	if got := s.Rows(); !same(got, m.rows) {
		t.Errorf("%s: Rows %x, not %x", name, got, m.rows)
	}
	if got, want := s.Rank(), m.rank(); got != want {
		t.Errorf("%s: Rank %d, not %d", name, got, want)
	}
	if got := s.Len(); got != len(m.rows) {
		t.Errorf("%s: Len %d, not %d", name, got, len(m.rows))
	}
	if got := s.Over(); got != m.over {
		t.Errorf("%s: Over %t, not %t", name, got, m.over)
	}
}

// put puts r into both.
func put(t *testing.T, name string, s *store.Store, m *model, r api.Row) {
	t.Helper()
	if got, want := s.Put(r), m.put(r); got != want {
		t.Errorf("%s: Put of %x is %d, not %d", name, r, got, want)
	}
}

// step is a Put and what is told behind it.
type step struct {
	row       api.Row
	err       api.Errno
	rank, len int
	over      bool
}

// TestSteps: fixed stores, row by row; what is kept is just the rows that were OK, as they came.
func TestSteps(t *testing.T) {
	for _, c := range []struct {
		name          string
		k, size, most int
		steps         []step
	}{
		{"the chapter's example", 1, 1, 0, []step{{eq(1, "a"), api.ErrFull, 0, 0, true}}},
		{"of 0, wrong rows first", 2, 1, 0, []step{
			{eq(4, "a"), api.ErrArg, 0, 0, false},
			{eq(0, "a"), api.ErrArg, 0, 0, false},
			{eq(1, ""), api.ErrArg, 0, 0, false},
			{eq(1, "a"), api.ErrFull, 0, 0, true},
			{eq(1, "ab"), api.ErrArg, 0, 0, true},
			{eq(2, "b"), api.ErrFull, 0, 0, true},
		}},
		{"below 0", 1, 1, -1, []step{{eq(1, "a"), api.ErrFull, 0, 0, true}, {eq(2, "a"), api.ErrArg, 0, 0, true}}},
		{"of 1", 2, 1, 1, []step{
			{eq(3, "a"), api.OK, 1, 1, false},
			{eq(3, "a"), api.ErrFull, 1, 1, true},
			{eq(0, "a"), api.ErrArg, 1, 1, true},
			{eq(2, "b"), api.ErrFull, 1, 1, true},
		}},
		{"full, and only wrong rows", 2, 1, 1, []step{
			{eq(1, "a"), api.OK, 1, 1, false},
			{eq(4, "a"), api.ErrArg, 1, 1, false},
			{eq(0, "a"), api.ErrArg, 1, 1, false},
			{eq(2, "ab"), api.ErrArg, 1, 1, false},
			{eq(2, ""), api.ErrArg, 1, 1, false},
			{wide("a", 2, 0), api.ErrArg, 1, 1, false},
			{wide("a"), api.ErrArg, 1, 1, false},
		}},
		{"wrong rows take no room", 2, 1, 2, []step{
			{eq(4, "a"), api.ErrArg, 0, 0, false},
			{eq(0, "a"), api.ErrArg, 0, 0, false},
			{eq(1, "ab"), api.ErrArg, 0, 0, false},
			{eq(2, "b"), api.OK, 1, 1, false},
			{eq(5, "a"), api.ErrArg, 1, 1, false},
			{eq(1, "a"), api.OK, 2, 2, false},
			{eq(3, "c"), api.ErrFull, 2, 2, true},
		}},
		{"rows twice, and what is false", 3, 1, 5, []step{
			{eq(3, "a"), api.OK, 1, 1, false},
			{eq(3, "a"), api.OK, 1, 2, false},
			{eq(3, "b"), api.OK, 1, 3, false},
			{eq(5, "a"), api.OK, 2, 4, false},
			{eq(6, "z"), api.OK, 2, 5, false},
			{eq(1, "a"), api.ErrFull, 2, 5, true},
			{eq(3, "a"), api.ErrFull, 2, 5, true},
		}},
		{"of no bytes", 2, 0, 2, []step{
			{eq(1, "\x00"), api.ErrArg, 0, 0, false},
			{eq(1, ""), api.OK, 1, 1, false},
			{eq(3, ""), api.OK, 2, 2, false},
			{eq(2, "a"), api.ErrArg, 2, 2, false},
			{eq(2, ""), api.ErrFull, 2, 2, true},
		}},
		{"of two words", 65, 2, 3, []step{
			{eq(1, "ab"), api.ErrArg, 0, 0, false},
			{wide("ab", 0, 2), api.ErrArg, 0, 0, false},
			{wide("ab", 0, 0), api.ErrArg, 0, 0, false},
			{wide("ab", 0, 1, 0), api.ErrArg, 0, 0, false},
			{wide("ab", 1, 3), api.ErrArg, 0, 0, false},
			{wide("ab", 0, 1), api.OK, 1, 1, false},
			{wide("a", all, 1), api.ErrArg, 1, 1, false},
			{wide("cd", all, 1), api.OK, 2, 2, false},
			{wide("\x02\x06", all, 0), api.OK, 2, 3, false},
			{wide("ab", 1, 0), api.ErrFull, 2, 3, true},
		}},
	} {
		s := store.New(c.k, c.size, c.most)
		var kept []api.Row
		if s.Len() != 0 || s.Rank() != 0 || s.Over() || len(s.Rows()) != 0 {
			t.Errorf("%s: a new store tells %d, %d, %t, %x", c.name, s.Len(), s.Rank(), s.Over(), s.Rows())
		}
		for i, step := range c.steps {
			err := s.Put(step.row)
			if step.err == api.OK {
				kept = append(kept, step.row)
			}
			if err != step.err || s.Rank() != step.rank || s.Len() != step.len || s.Over() != step.over {
				t.Errorf("%s, step %d: %d, Rank %d, Len %d, Over %t, not %v", c.name, i, err, s.Rank(), s.Len(), s.Over(), step)
			}
			if got := s.Rows(); !same(got, kept) {
				t.Errorf("%s, step %d: Rows %x, not %x", c.name, i, got, kept)
			}
		}
	}
}

// TestMost: as many rows as the bound says and no more, at its edges and far beyond them; 256 is written out, for the chapter says it.
func TestMost(t *testing.T) {
	for _, c := range []struct{ most, room int }{
		{math.MinInt, 0}, {math.MinInt + 1, 0}, {-1 << 32, 0}, {-257, 0}, {-256, 0}, {-1, 0}, {0, 0}, {1, 1}, {2, 2}, {3, 3}, {127, 127}, {128, 128}, {129, 129},
		{254, 254}, {255, 255}, {256, 256}, {257, 256}, {258, 256}, {512, 256}, {1 << 31, 256}, {1<<32 - 1, 256}, {1 << 32, 256}, {1<<32 + 1, 256}, {math.MaxInt - 1, 256}, {math.MaxInt, 256},
	} {
		s := store.New(16, 2, c.most)
		for i := range 300 {
			want := api.OK
			if i >= c.room {
				want = api.ErrFull
			}
			if got := s.Put(eq(uint64(i+1), "ab")); got != want {
				t.Fatalf("most %d: row %d is %d, not %d", c.most, i, got, want)
			}
			if s.Len() != min(i+1, c.room) || s.Over() != (i >= c.room) {
				t.Fatalf("most %d: behind row %d Len is %d, Over %t", c.most, i, s.Len(), s.Over())
			}
			if got := s.Put(eq(uint64(i+1), "a")); got != api.ErrArg {
				t.Fatalf("most %d: a short row %d is %d", c.most, i, got)
			}
		}
		rows := s.Rows()
		if len(rows) != c.room {
			t.Fatalf("most %d: %d rows", c.most, len(rows))
		}
		for i, r := range rows {
			if !slices.Equal(r.Vec, []uint64{uint64(i + 1)}) || r.Data != "ab" {
				t.Errorf("most %d: row %d is %x", c.most, i, r)
			}
		}
	}
}

// TestEachMost: every bound from a bit below 0 to a bit beyond MaxCap, as the model has it.
func TestEachMost(t *testing.T) {
	for most := -3; most <= api.MaxCap+3; most++ {
		s, m := store.New(2, 0, most), modelled(2, 0, most)
		for range api.MaxCap + 5 {
			put(t, "each most", s, m, eq(3, ""))
			if s.Len() != len(m.rows) || s.Over() != m.over {
				t.Fatalf("most %d: Len %d, Over %t, not %d, %t", most, s.Len(), s.Over(), len(m.rows), m.over)
			}
		}
		check(t, "each most", s, m)
	}
}

// TestEachK: at each k, the rows of one block, with the bits at the edges of its words and one beyond them.
func TestEachK(t *testing.T) {
	for k := 1; k <= api.MaxK; k++ {
		s, m := store.New(k, 1, api.MaxCap), modelled(k, 1, api.MaxCap)
		for i := range 192 {
			v := make([]uint64, max(i/64+1, (k+63)/64))
			v[i/64] = 1 << (i % 64)
			want := api.OK
			if i >= k {
				want = api.ErrArg
			}
			r := api.Row{Vec: v, Data: "x"}
			if got := s.Put(r); got != want {
				t.Errorf("k %d: block %d is %d, not %d", k, i, got, want)
			}
			m.put(r)
		}
		if s.Rank() != k || s.Len() != k || s.Over() {
			t.Errorf("k %d: Rank %d, Len %d, Over %t", k, s.Rank(), s.Len(), s.Over())
		}
		whole := make([]uint64, (k+63)/64)
		for i := range k {
			whole[i/64] |= 1 << (i % 64)
		}
		put(t, "all blocks", s, m, api.Row{Vec: whole, Data: "y"})
		for words := range 5 {
			v := make([]uint64, words)
			put(t, "no bit", s, m, api.Row{Vec: v, Data: "x"})
			for i := range v {
				one := slices.Clone(v)
				one[i] = 1
				put(t, "words", s, m, api.Row{Vec: one, Data: "x"})
			}
		}
		check(t, "each k", s, m)
	}
}

// TestOddK: where there are no such rows, each row is ErrArg, were there no room for it either.
func TestOddK(t *testing.T) {
	rows := []api.Row{{}, eq(0, "a"), eq(1, "a"), eq(1, ""), eq(all, "a"), wide("a", 1, 0), wide("a", 0, 1), wide("a", 1, 1, 0), wide("a", 0, 0, 1), wide("a")}
	for _, k := range []int{math.MinInt, math.MinInt + 1, -1 << 32, -129, -128, -64, -1, 0, 129, 130, 191, 192, 193, 256, 1 << 31, 1<<32 - 1, 1 << 32, 1<<32 + 1, 1<<32 + 64, math.MaxInt - 1, math.MaxInt} {
		for _, most := range []int{-1, 0, 1, 256} {
			for _, size := range []int{0, 1} {
				s := store.New(k, size, most)
				for _, r := range rows {
					if got := s.Put(r); got != api.ErrArg {
						t.Errorf("New(%d, %d, %d): Put of %x is %d", k, size, most, r, got)
					}
				}
				check(t, "odd k", s, modelled(k, size, most))
			}
		}
	}
}

// TestSize: just size bytes, for every size of a block and beyond; a byte less or more is ErrArg.
func TestSize(t *testing.T) {
	sizes := []int{100, 255, 256, 257, 1000, 65535, 65536, 1 << 20}
	for size := range api.MaxBlock + 3 {
		sizes = append(sizes, size)
	}
	for _, size := range sizes {
		for _, most := range []int{0, 1, 2} {
			s, m := store.New(3, size, most), modelled(3, size, most)
			text := strings.Repeat("\x00z\xff", size/3+1)
			for range 3 {
				for _, n := range []int{size - 1, size, size + 1} {
					if n >= 0 {
						put(t, "size", s, m, eq(5, text[:n]))
					}
				}
				put(t, "size", s, m, eq(5, ""))
			}
			if len(m.rows) != most || !m.over {
				t.Fatalf("size %d: the rows did not fill a store of %d", size, most)
			}
			check(t, "size", s, m)
		}
	}
}

// TestOddSize: no text has that many bytes.
func TestOddSize(t *testing.T) {
	texts := []string{"", "a", "\x00", strings.Repeat("a", 64), strings.Repeat("a", 65), strings.Repeat("a", 256)}
	for _, size := range []int{math.MinInt, math.MinInt + 1, -1 << 32, -256, -65, -64, -2, -1, 1 << 31, 1<<32 - 1, 1 << 32, 1<<32 + 1, 1<<32 + 64, math.MaxInt - 1, math.MaxInt} {
		for _, most := range []int{0, 1} {
			s := store.New(1, size, most)
			for _, text := range texts {
				if got := s.Put(eq(1, text)); got != api.ErrArg {
					t.Errorf("New(1, %d, %d): Put of %d bytes is %d", size, most, len(text), got)
				}
			}
			check(t, "odd size", s, modelled(1, size, most))
		}
	}
}

// TestNil: on a nil store Put tells ErrArg, whatever the row; the others tell zero values.
func TestNil(t *testing.T) {
	var s *store.Store
	for range 2 {
		for _, r := range []api.Row{{}, eq(1, "a"), eq(0, ""), wide("ab", 1, 1)} {
			if got := s.Put(r); got != api.ErrArg {
				t.Errorf("Put of %x is %d", r, got)
			}
		}
		if len(s.Rows()) != 0 || s.Rank() != 0 || s.Len() != 0 || s.Over() {
			t.Errorf("nil tells %x, %d, %d, %t", s.Rows(), s.Rank(), s.Len(), s.Over())
		}
	}
}

// TestOverStays: once a row found no room, Over is true behind whatever comes.
func TestOverStays(t *testing.T) {
	s := store.New(2, 1, 1)
	s.Put(eq(1, "a"))
	if s.Over() {
		t.Error("a store that is just full is over")
	}
	s.Put(eq(2, "b"))
	for i, r := range []api.Row{eq(1, "a"), eq(0, "a"), eq(4, "a"), eq(2, ""), eq(2, "b"), {}} {
		if !s.Over() {
			t.Errorf("Over is false ahead of row %d", i)
		}
		s.Put(r)
		s.Rows()
		s.Rank()
		s.Len()
	}
	if !s.Over() || s.Len() != 1 || !same(s.Rows(), []api.Row{eq(1, "a")}) {
		t.Errorf("Over %t, rows %x", s.Over(), s.Rows())
	}
}

// TestEachShortList: every list of up to 4 of some rows, right and wrong, into every small store.
func TestEachShortList(t *testing.T) {
	rows := []api.Row{eq(1, "a"), eq(2, "b"), eq(3, "c"), eq(3, "d"), eq(4, "a"), eq(0, "a"), eq(1, "ab"), wide("a", 1, 0)}
	for most := -1; most <= 4; most++ {
		for code := range 8 * 8 * 8 * 8 {
			s, m := store.New(2, 1, most), modelled(2, 1, most)
			for rest, n := code, 0; n < 4; rest, n = rest/8, n+1 {
				put(t, "short list", s, m, rows[rest%8])
				check(t, "short list", s, m)
			}
			if t.Failed() {
				t.Fatalf("most %d, list %o", most, code)
			}
		}
	}
}

// some gives a row as chance has it: mostly one of k blocks and of size bytes.
func some(r *rand.Rand, k, size int) api.Row {
	v := make([]uint64, (k+63)/64)
	for range 1 + r.IntN(4) {
		i := r.IntN(k)
		v[i/64] |= 1 << (i % 64)
	}
	text := make([]byte, size)
	for i := range text {
		text[i] = byte(r.Uint64())
	}
	row := api.Row{Vec: v, Data: string(text)}
	switch r.IntN(12) {
	case 0:
		row.Vec = append(row.Vec, 0)
	case 1:
		row.Vec = row.Vec[1:]
	case 2:
		clear(row.Vec)
	case 3:
		row.Data += "x"
	case 4:
		row.Data = row.Data[:size/2]
	case 5:
		i := r.IntN(len(v) * 64)
		row.Vec[i/64] |= 1 << (i % 64)
	}
	return row
}

// TestAny: rows as chance has them, into stores of any k, size and bound; all is asked on the way.
func TestAny(t *testing.T) {
	r := rand.New(rand.NewPCG(15, 1))
	told := map[api.Errno]int{}
	for range 400 {
		k, size, most := 1+r.IntN(128), r.IntN(65), r.IntN(60)-5
		if r.IntN(8) == 0 {
			most = 200 + r.IntN(80)
		}
		s, m := store.New(k, size, most), modelled(k, size, most)
		for range most + r.IntN(40) + 10 {
			row := some(r, k, size)
			if len(m.rows) > 0 && r.IntN(5) == 0 {
				row = m.rows[r.IntN(len(m.rows))]
			}
			got, want := s.Put(row), m.put(row)
			if got != want {
				t.Fatalf("New(%d, %d, %d): Put of %x behind %x is %d, not %d", k, size, most, row, m.rows, got, want)
			}
			told[got]++
			if r.IntN(10) == 0 {
				check(t, "any", s, m)
			}
		}
		check(t, "any", s, m)
		if t.Failed() {
			t.Fatalf("New(%d, %d, %d)", k, size, most)
		}
	}
	for _, err := range []api.Errno{api.OK, api.ErrArg, api.ErrFull} {
		if told[err] < 500 {
			t.Errorf("only %d rows were %d", told[err], err)
		}
	}
}

// TestRankOfAll: rows that bring nothing are kept ahead of, between and behind those that do; Rank grows by these alone.
func TestRankOfAll(t *testing.T) {
	const k = 128
	s := store.New(k, 1, 256)
	for i := range k {
		chain := []int{i}
		if i > 0 {
			chain = []int{i - 1, i}
		}
		for twice := range 2 {
			if err := s.Put(of(k, "x", chain...)); err != api.OK {
				t.Fatalf("block %d: %d", i, err)
			}
			if s.Rank() != i+1 || s.Len() != 2*i+1+twice || s.Over() {
				t.Errorf("block %d: Rank %d, Len %d, Over %t", i, s.Rank(), s.Len(), s.Over())
			}
		}
	}
	if err := s.Put(of(k, "x", 0)); err != api.ErrFull || s.Rank() != k || !s.Over() {
		t.Errorf("%d, Rank %d, Over %t", err, s.Rank(), s.Over())
	}
}

// TestHandedIn (R4): a row is as it was, with what lies behind its end; and what becomes of it later is not seen in the store.
func TestHandedIn(t *testing.T) {
	for _, most := range []int{0, 1, 5} {
		s, m := store.New(65, 3, most), modelled(65, 3, most)
		for i := range 3 {
			vec := []uint64{77, uint64(i + 1), 1, 78}
			text := []byte("-abc-")
			row := api.Row{Vec: vec[1:3], Data: unsafe.String(&text[1], 3)}
			m.put(row)
			s.Put(row)
			s.Put(api.Row{Vec: vec[1:2], Data: row.Data})
			s.Put(api.Row{Vec: vec[1:4], Data: row.Data})
			s.Rows()
			s.Rank()
			if !slices.Equal(vec, []uint64{77, uint64(i + 1), 1, 78}) || string(text) != "-abc-" {
				t.Errorf("a row and what lies around it became %x, %q", vec, text)
			}
			clear(vec)
			copy(text, "spoil")
			check(t, "spoilt behind Put", s, m)
		}
	}
}

// TestHandedOut (R4): Rows gives new memory each time: what is done to it, also behind its end, changes neither the store nor another answer.
func TestHandedOut(t *testing.T) {
	s, m := store.New(65, 2, 3), modelled(65, 2, 3)
	for _, r := range []api.Row{wide("ab", 1, 1), wide("ab", 1, 1), wide("cd", 2, 0), wide("ef", 4, 0)} {
		put(t, "handed out", s, m, r)
		one, other := s.Rows(), s.Rows()
		for _, row := range one {
			for i := range row.Vec[:cap(row.Vec)] {
				row.Vec[:cap(row.Vec)][i] = 77
			}
		}
		clear(one[:cap(one)])
		_ = append(one[:0], eq(9, "spoilt"), eq(9, "spoilt"), eq(9, "spoilt"))
		if !same(other, m.rows) {
			t.Errorf("another answer became %x, not %x", other, m.rows)
		}
		check(t, "spoilt", s, m)
	}
	// A row longer by what is appended is not one that the store, or the row behind it, sees.
	rows := s.Rows()
	for i := range rows {
		rows[i].Vec = append(rows[i].Vec, 99)
		rows[i].Vec[0] = 98
	}
	for i, r := range rows {
		if !slices.Equal(r.Vec, []uint64{98, m.rows[i].Vec[1], 99}) {
			t.Errorf("row %d became %x", i, r.Vec)
		}
	}
	check(t, "appended", s, m)
}

// TestRowsBetween: an answer stays as it was, whatever is put later.
func TestRowsBetween(t *testing.T) {
	s := store.New(8, 1, 256)
	var answers [][]api.Row
	var put []api.Row
	for i := range 255 {
		r := eq(uint64(i+1), string([]byte{byte(i)}))
		s.Put(r)
		put = append(put, r)
		answers = append(answers, s.Rows())
	}
	for i, rows := range answers {
		if !same(rows, put[:i+1]) {
			t.Fatalf("the answer behind row %d became %x", i, rows)
		}
	}
}

// TestTextsHandedOut (R4): no two texts of answers and of what was handed in lie in the same memory.
func TestTextsHandedOut(t *testing.T) {
	s := store.New(4, 3, 8)
	text := "abcdef"
	for _, r := range []api.Row{eq(1, text[:3]), eq(2, text[3:]), eq(3, text[1:4]), eq(4, text[:3])} {
		if s.Put(r) != api.OK {
			t.Fatalf("%x was not kept", r)
		}
	}
	texts := []string{text}
	for range 3 {
		for _, r := range s.Rows() {
			texts = append(texts, r.Data)
		}
	}
	whose := map[*byte]int{}
	for place, text := range texts {
		for i := range len(text) {
			at := unsafe.StringData(text[i:])
			if other, is := whose[at]; is {
				t.Errorf("texts %d and %d, %q and %q, share memory", other, place, texts[other], text)
			}
			whose[at] = place
		}
	}
}

// TestAgain (R5): the same rows into another store give the same, whatever is asked between and whatever other stores hold.
func TestAgain(t *testing.T) {
	r := rand.New(rand.NewPCG(15, 2))
	for range 50 {
		k, size, most := 1+r.IntN(128), r.IntN(5), r.IntN(20)
		one, two, other := store.New(k, size, most), store.New(k, size, most), store.New(k, size, most+1)
		m := modelled(k, size, most)
		for range 30 {
			row := some(r, k, size)
			a := one.Put(row)
			other.Put(some(r, k, size))
			two.Rank()
			two.Rows()
			two.Len()
			two.Over()
			b := two.Put(row)
			if want := m.put(row); a != want || b != want {
				t.Fatalf("Put of %x is %d and %d, not %d", row, a, b, want)
			}
		}
		for range 2 {
			check(t, "one", one, m)
			check(t, "two", two, m)
		}
	}
}
