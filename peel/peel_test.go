package peel_test

import (
	"math"
	"math/rand/v2"
	"reflect"
	"slices"
	"strings"
	"testing"
	"unsafe"

	"bucketline/api"
	"bucketline/peel"
	"bucketline/words"
	"bucketline/xor"
)

const all = ^uint64(0)

// eq gives an equation of one word.
func eq(bits uint64, data string) api.Row { return api.Row{Vec: []uint64{bits}, Data: data} }

// of gives an equation of those of k blocks.
func of(k int, data string, blocks ...int) api.Row {
	v := make([]uint64, (k+63)/64)
	for _, i := range blocks {
		v[i/64] |= 1 << (i % 64)
	}
	return api.Row{Vec: v, Data: data}
}

// bits gives the places of v's bits, by rising ones.
func bits(v []uint64) []int {
	var out []int
	for i := range len(v) * 64 {
		if v[i/64]>>(i%64)&1 == 1 {
			out = append(out, i)
		}
	}
	return out
}

// fits tells whether v is a row of k blocks, as chapter 1 says it.
func fits(k int, v []uint64) bool {
	b := bits(v)
	return k >= 1 && k <= 128 && len(v) == (k+63)/64 && (len(b) == 0 || b[len(b)-1] < k)
}

// plainXor xors texts byte by byte.
func plainXor(a, b string) string {
	out := make([]byte, max(len(a), len(b)))
	for i := range out {
		if i < len(a) {
			out[i] ^= a[i]
		}
		if i < len(b) {
			out[i] ^= b[i]
		}
	}
	return string(out)
}

// strip gives the blocks of r that are not known, and its Data xored with those that are.
func strip(r api.Row, known map[int]string) ([]int, string) {
	var unknown []int
	data := r.Data
	for _, i := range bits(r.Vec) {
		if text, is := known[i]; is {
			data = plainXor(data, text)
		} else {
			unknown = append(unknown, i)
		}
	}
	return unknown, data
}

// plainPeel tells Peel in the chapter's words, row by row.
func plainPeel(k int, rows []api.Row) (told, left []api.Row) {
	known := map[int]string{}
again:
	for _, r := range rows {
		if !fits(k, r.Vec) {
			continue
		}
		if unknown, data := strip(r, known); len(unknown) == 1 {
			known[unknown[0]] = data
			goto again
		}
	}
	for i := range min(max(k, 0), 128) {
		if text, is := known[i]; is {
			told = append(told, of(k, text, i))
		}
	}
	for _, r := range rows {
		if !fits(k, r.Vec) {
			continue
		}
		if unknown, data := strip(r, known); len(unknown) > 1 {
			left = append(left, of(k, data, unknown...))
		}
	}
	return told, left
}

// plainRipple tells Ripple in the chapter's words, bit by bit.
func plainRipple(known, rows []api.Row) []int {
	told := map[int]string{}
	for _, r := range known {
		if b := bits(r.Vec); len(b) == 1 {
			told[b[0]] = ""
		}
	}
	var out []int
	for place, r := range rows {
		if unknown, _ := strip(r, told); len(unknown) == 1 {
			out = append(out, place)
		}
	}
	return out
}

// alike tells whether both are the same rows, to the last word and byte.
func alike(a, b []api.Row) bool {
	return slices.EqualFunc(a, b, func(x, y api.Row) bool { return slices.Equal(x.Vec, y.Vec) && x.Data == y.Data })
}

// checkPeel fails, unless Peel answers these rows.
func checkPeel(t *testing.T, k int, rows, told, left []api.Row) {
	t.Helper()
	a, b := peel.Peel(k, rows)
	if !alike(a, told) {
		t.Errorf("Peel(%d, %x) knows %x, not %x", k, rows, a, told)
	}
	if !alike(b, left) {
		t.Errorf("Peel(%d, %x) leaves %x, not %x", k, rows, b, left)
	}
}

func TestPeel(t *testing.T) {
	type l = []api.Row
	for name, c := range map[string]struct {
		k                int
		rows, told, left l
	}{
		"the chapter's example":   {4, l{eq(1, "a"), eq(3, "\x03"), eq(12, "z")}, l{eq(1, "a"), eq(2, "b")}, l{eq(12, "z")}},
		"one block":               {1, l{eq(1, "a")}, l{eq(1, "a")}, nil},
		"one block of three":      {3, l{eq(2, "b")}, l{eq(2, "b")}, nil},
		"two together":            {2, l{eq(3, "x")}, nil, l{eq(3, "x")}},
		"three, told backwards":   {3, l{eq(7, "\x07"), eq(6, "\x06"), eq(4, "\x04")}, l{eq(1, "\x01"), eq(2, "\x02"), eq(4, "\x04")}, nil},
		"told from the middle":    {3, l{eq(6, "\x06"), eq(2, "\x02"), eq(3, "\x03")}, l{eq(1, "\x01"), eq(2, "\x02"), eq(4, "\x04")}, nil},
		"falling blocks":          {4, l{eq(8, "d"), eq(4, "c"), eq(2, "b"), eq(1, "a")}, l{eq(1, "a"), eq(2, "b"), eq(4, "c"), eq(8, "d")}, nil},
		"no rows":                 {3, nil, nil, nil},
		"no rows, a list":         {3, l{}, nil, nil},
		"no bit":                  {3, l{eq(0, "x")}, nil, nil},
		"no bit, no text":         {3, l{eq(0, "")}, nil, nil},
		"no bit among others":     {3, l{eq(0, "x"), eq(1, "a"), eq(0, ""), eq(6, "y"), eq(0, "z")}, l{eq(1, "a")}, l{eq(6, "y")}},
		"no text":                 {2, l{eq(1, ""), eq(3, "")}, l{eq(1, ""), eq(2, "")}, nil},
		"a block of no text":      {3, l{eq(1, ""), eq(7, "x")}, l{eq(1, "")}, l{eq(6, "x")}},
		"twice":                   {2, l{eq(1, "a"), eq(1, "a")}, l{eq(1, "a")}, nil},
		"twice and left":          {2, l{eq(3, "a"), eq(3, "a")}, nil, l{eq(3, "a"), eq(3, "a")}},
		"twice without the known": {3, l{eq(7, "a"), eq(7, "a"), eq(1, "b")}, l{eq(1, "b")}, l{eq(6, "\x03"), eq(6, "\x03")}},
		"all twice":               {2, l{eq(3, "\x03"), eq(3, "\x03"), eq(1, "a"), eq(1, "a")}, l{eq(1, "a"), eq(2, "b")}, nil},
		// Of rows that say different things of one block the first by its place tells it.
		"unlike":             {1, l{eq(1, "a"), eq(1, "b"), eq(1, "c")}, l{eq(1, "a")}, nil},
		"unlike, the other":  {1, l{eq(1, "b"), eq(1, "a")}, l{eq(1, "b")}, nil},
		"unlike in length":   {1, l{eq(1, "a"), eq(1, "a\x00")}, l{eq(1, "a")}, nil},
		"unlike, the longer": {1, l{eq(1, "a\x00"), eq(1, "a")}, l{eq(1, "a\x00")}, nil},
		"unlike and left":    {2, l{eq(3, "a"), eq(3, "b")}, nil, l{eq(3, "a"), eq(3, "b")}},
		// The search begins at the first row again: place 0 tells block 0, once place 1 has told block 1, not place 2.
		"back to the first":       {2, l{eq(3, "\x10"), eq(2, "\x01"), eq(1, "\x04")}, l{eq(1, "\x11"), eq(2, "\x01")}, nil},
		"back to the first twice": {3, l{eq(6, "\x20"), eq(3, "\x10"), eq(1, "\x01"), eq(2, "\x02"), eq(4, "\x04")}, l{eq(1, "\x01"), eq(2, "\x11"), eq(4, "\x31")}, nil},
		// Place 1 could tell block 1 as soon as place 0 has told block 0; place 2 tells it already, but stands behind.
		"ahead of one that waits": {2, l{eq(1, "\x01"), eq(3, "\x10"), eq(2, "\x02")}, l{eq(1, "\x01"), eq(2, "\x11")}, nil},
		"behind one that waits":   {2, l{eq(1, "\x01"), eq(2, "\x02"), eq(3, "\x10")}, l{eq(1, "\x01"), eq(2, "\x02")}, nil},
		"the first of two":        {2, l{eq(2, "\x02"), eq(1, "\x01"), eq(3, "\x10")}, l{eq(1, "\x01"), eq(2, "\x02")}, nil},
		// What is left: two and more, in order, without the known ones.
		"left in order":       {5, l{eq(24, "x"), eq(6, "y"), eq(12, "z"), eq(24, "w")}, nil, l{eq(24, "x"), eq(6, "y"), eq(12, "z"), eq(24, "w")}},
		"left without one":    {5, l{eq(15, "\x0f"), eq(1, "\x01"), eq(31, "\x1f"), eq(7, "\x07")}, l{eq(1, "\x01")}, l{eq(14, "\x0e"), eq(30, "\x1e"), eq(6, "\x06")}},
		"left without two":    {5, l{eq(31, "\x1f"), eq(3, "\x03"), eq(26, "\x1a"), eq(2, "\x02")}, l{eq(1, "\x01"), eq(2, "\x02")}, l{eq(28, "\x1c"), eq(24, "\x18")}},
		"left, of no known":   {5, l{eq(1, "\x01"), eq(24, "\x18")}, l{eq(1, "\x01")}, l{eq(24, "\x18")}},
		"left, known behind":  {4, l{eq(7, "\x07"), eq(15, "\x0f"), eq(1, "\x01"), eq(8, "\x08")}, l{eq(1, "\x01"), eq(8, "\x08")}, l{eq(6, "\x06"), eq(6, "\x06")}},
		"a cycle":             {3, l{eq(3, "a"), eq(6, "b"), eq(5, "c")}, nil, l{eq(3, "a"), eq(6, "b"), eq(5, "c")}},
		"a cycle, and one in": {3, l{eq(3, "\x03"), eq(6, "\x06"), eq(5, "\x05"), eq(2, "\x02")}, l{eq(1, "\x01"), eq(2, "\x02"), eq(4, "\x04")}, nil},
		// Texts of different lengths: as long as the longest of those that are xored.
		"a longer row":          {2, l{eq(1, "a"), eq(3, "abc")}, l{eq(1, "a"), eq(2, "\x00bc")}, nil},
		"a longer block":        {2, l{eq(1, "abc"), eq(3, "b")}, l{eq(1, "abc"), eq(2, "\x03bc")}, nil},
		"a row of no text":      {2, l{eq(1, "abc"), eq(3, "")}, l{eq(1, "abc"), eq(2, "abc")}, nil},
		"the same, not shorter": {2, l{eq(1, "abc"), eq(3, "abc")}, l{eq(1, "abc"), eq(2, "\x00\x00\x00")}, nil},
		"left, a longer block":  {3, l{eq(1, "abc"), eq(7, "b")}, l{eq(1, "abc")}, l{eq(6, "\x03bc")}},
		"left, a longer row":    {3, l{eq(1, "a"), eq(7, "abc")}, l{eq(1, "a")}, l{eq(6, "\x00bc")}},
		"left, three lengths":   {4, l{eq(1, "a"), eq(2, "bcd"), eq(15, "ef")}, l{eq(1, "a"), eq(2, "bcd")}, l{eq(12, "\x66\x05d")}},
	} {
		t.Run(name, func(t *testing.T) { checkPeel(t, c.k, c.rows, c.told, c.left) })
	}
}

// TestPeelWithoutBlocks: nothing and nothing, unless k is 1 to MaxK, whatever the rows.
func TestPeelWithoutBlocks(t *testing.T) {
	rows := []api.Row{{}, {Data: "a"}, eq(1, "a"), eq(3, "b"), eq(12, "c"), eq(0, "d"), {Vec: []uint64{1, 1}}, {Vec: []uint64{1, 0, 0}}}
	for _, k := range []int{
		math.MinInt, math.MinInt + 1, math.MinInt + 64, -1 << 32, -1<<32 + 4, -129, -128, -64, -1, 0,
		129, 130, 192, 193, 255, 256, 257, 1 << 31, 1 << 32, 1<<32 + 4, 1<<62 + 4, math.MaxInt - 63, math.MaxInt - 1, math.MaxInt,
	} {
		for _, l := range [][]api.Row{nil, {}, rows[2:3], rows} {
			if a, b := peel.Peel(k, l); len(a) != 0 || len(b) != 0 {
				t.Errorf("Peel(%d, %x): %x, %x", k, l, a, b)
			}
		}
	}
}

// TestPeelEachK: at every number of blocks the last one is told and left, and the one behind it is not.
func TestPeelEachK(t *testing.T) {
	for k := 1; k <= api.MaxK; k++ {
		last := of(k, "z", k-1)
		checkPeel(t, k, []api.Row{last}, []api.Row{last}, nil)
		var beyond []api.Row
		for _, n := range []int{k + 1, k + 2, k + 63, k + 64, k + 128} {
			r := of(n, "y", n-1)
			beyond = append(beyond, r)
			checkPeel(t, k, []api.Row{r}, nil, nil)
		}
		checkPeel(t, k, append(beyond, last), []api.Row{last}, nil)
		if k > 1 {
			ends := of(k, "x", 0, k-1)
			checkPeel(t, k, []api.Row{ends}, nil, []api.Row{ends})
			checkPeel(t, k, append(beyond, ends, last), []api.Row{of(k, "\x02", 0), last}, nil)
		}
	}
}

// TestPeelNotValid: a row that is none of k blocks tells nothing, is not left, and hinders no other.
func TestPeelNotValid(t *testing.T) {
	for name, c := range map[string]struct {
		k   int
		row api.Row
	}{
		"no words":                 {5, api.Row{Data: "x"}},
		"no words, a list":         {5, api.Row{Vec: []uint64{}, Data: "x"}},
		"a word too many":          {5, api.Row{Vec: []uint64{1, 0}, Data: "x"}},
		"many words too many":      {5, api.Row{Vec: make([]uint64, 1000), Data: "x"}},
		"a word too many, no bit":  {5, api.Row{Vec: []uint64{0, 0}, Data: "x"}},
		"a word too many, bits":    {5, api.Row{Vec: []uint64{3, 1}, Data: "x"}},
		"a bit too many":           {5, eq(32, "x")},
		"a bit too many and one":   {5, eq(33, "x")},
		"a bit too many and two":   {5, eq(35, "x")},
		"the highest bit":          {5, eq(1<<63, "x")},
		"all bits":                 {5, eq(all, "x")},
		"the second block of one":  {1, eq(2, "x")},
		"both blocks of one":       {1, eq(3, "x")},
		"the last bit of 63":       {63, eq(1<<63, "x")},
		"a word too few":           {65, eq(1, "x")},
		"a word too few, two":      {65, eq(3, "x")},
		"a bit too many of 65":     {65, api.Row{Vec: []uint64{1, 2}, Data: "x"}},
		"the last bit of 127":      {127, api.Row{Vec: []uint64{0, 1 << 63}, Data: "x"}},
		"a word too few of 128":    {128, eq(1, "x")},
		"a word too many of 128":   {128, api.Row{Vec: []uint64{1, 0, 0}, Data: "x"}},
		"a bit beyond 128":         {128, api.Row{Vec: []uint64{0, 0, 1}, Data: "x"}},
		"a bit beyond 128 and one": {128, api.Row{Vec: []uint64{1, 0, 1}, Data: "x"}},
	} {
		t.Run(name, func(t *testing.T) {
			checkPeel(t, c.k, []api.Row{c.row}, nil, nil)
			checkPeel(t, c.k, []api.Row{c.row, c.row}, nil, nil)
			first := of(c.k, "a", 0)
			checkPeel(t, c.k, []api.Row{c.row, first, c.row}, []api.Row{first}, nil)
			if c.k > 2 {
				two, three := of(c.k, "b", 1, 2), of(c.k, "c", 0, 1, 2)
				checkPeel(t, c.k, []api.Row{c.row, two, c.row}, nil, []api.Row{two})
				checkPeel(t, c.k, []api.Row{c.row, three, c.row, first, c.row, two, c.row}, []api.Row{first}, []api.Row{of(c.k, "\x02", 1, 2), two})
			}
		})
	}
}

// TestPeelChains: each block that is told makes the next one known, along the rows, against them, and across them.
func TestPeelChains(t *testing.T) {
	r := rand.New(rand.NewPCG(13, 1))
	for _, k := range []int{1, 2, 3, 63, 64, 65, 127, api.MaxK} {
		var blocks []string
		for i := range k {
			blocks = append(blocks, string([]byte{byte(i + 1), byte(i * i), byte(7 * i)}))
		}
		var told, up, down []api.Row
		for i := range k {
			told = append(told, of(k, blocks[i], i))
			up, down = append(up, told[i]), append(down, told[i])
			if i > 0 {
				up[i] = of(k, plainXor(blocks[i-1], blocks[i]), i-1, i)
				down[i-1] = of(k, plainXor(blocks[i-1], blocks[i]), i-1, i)
			}
		}
		mixed := slices.Clone(up)
		r.Shuffle(k, func(i, j int) { mixed[i], mixed[j] = mixed[j], mixed[i] })
		for _, chain := range [][]api.Row{up, down, mixed} {
			checkPeel(t, k, chain, told, nil)
			slices.Reverse(chain)
			checkPeel(t, k, chain, told, nil)
		}
		checkPeel(t, k, stairs(k, blocks), told, nil)
		// Without its beginning a chain tells nothing.
		open := slices.DeleteFunc(mixed, func(x api.Row) bool { return len(bits(x.Vec)) == 1 })
		checkPeel(t, k, open, nil, open)
	}
}

// stairs gives rows of all k blocks, of all but the first, and so on down to the last alone.
func stairs(k int, blocks []string) []api.Row {
	var out []api.Row
	for from := range k {
		r := of(k, "")
		for i := from; i < k; i++ {
			r = api.Row{Vec: of(k, "", append(bits(r.Vec), i)...).Vec, Data: plainXor(r.Data, blocks[i])}
		}
		out = append(out, r)
	}
	return out
}

// checkAgainstPlain fails, unless Peel answers what the chapter's words tell.
func checkAgainstPlain(t *testing.T, k int, rows []api.Row) (told, left []api.Row) {
	t.Helper()
	told, left = plainPeel(k, rows)
	a, b := peel.Peel(k, rows)
	if !alike(a, told) || !alike(b, left) {
		t.Fatalf("Peel(%d, %x): %x and %x, not %x and %x", k, rows, a, b, told, left)
	}
	return told, left
}

// TestPeelEachShortList holds every short list against the chapter's words; the Datas are all unlike, so that it shows which row told.
func TestPeelEachShortList(t *testing.T) {
	for _, c := range []struct{ n, bits int }{{1, 4}, {2, 4}, {3, 4}, {4, 3}, {6, 2}} {
		for code := range 1 << (c.bits * c.n) {
			rows := make([]api.Row, c.n)
			for i := range rows {
				rows[i] = eq(uint64(code>>(c.bits*i)&(1<<c.bits-1)), strings.Repeat("\x00", i%3)+string([]byte{1 << i}))
			}
			// With a block less, the rows that have the last one are left out.
			for _, k := range []int{c.bits, c.bits - 1} {
				checkAgainstPlain(t, k, rows)
			}
		}
	}
}

// someText gives a text of up to 5 bytes.
func someText(r *rand.Rand) string {
	out := make([]byte, r.IntN(6))
	for i := range out {
		out[i] = byte(r.Uint32())
	}
	return string(out)
}

// someRows gives rows of few bits, most of them of k blocks, of any texts.
func someRows(r *rand.Rand, n, k int) []api.Row {
	var out []api.Row
	for range n {
		of := k
		if r.IntN(16) == 0 {
			of = 1 + r.IntN(200)
		}
		out = append(out, someRow(r, of))
		if r.IntN(8) == 0 {
			out = append(out, out[r.IntN(len(out))])
		}
	}
	return out
}

func someRow(r *rand.Rand, k int) api.Row {
	var blocks []int
	for range r.IntN(2 + r.IntN(min(k, 7))) {
		blocks = append(blocks, r.IntN(k))
	}
	return of(k, someText(r), blocks...)
}

// TestPeelAny holds lists as chance has them against the chapter's words.
func TestPeelAny(t *testing.T) {
	r := rand.New(rand.NewPCG(13, 2))
	known, open := 0, 0
	for range 3000 {
		k := 1 + r.IntN(api.MaxK)
		if r.IntN(2) == 0 {
			k = 1 + r.IntN(12)
		}
		told, left := checkAgainstPlain(t, k, someRows(r, r.IntN(2*k+2), k))
		known += len(told)
		open += len(left)
	}
	if known < 10000 || open < 10000 {
		t.Errorf("only %d blocks known and %d rows left in all", known, open)
	}
}

// TestPeelTrue: of rows that are true of some blocks, what is known and what is left is true of them, and has all that the rows have.
func TestPeelTrue(t *testing.T) {
	r := rand.New(rand.NewPCG(13, 3))
	for range 300 {
		k := 1 + r.IntN(api.MaxK)
		blocks := make([]string, k)
		for i := range blocks {
			blocks[i] = string([]byte{byte(r.Uint32()), byte(r.Uint32()), byte(r.Uint32())})
		}
		rows := someRows(r, 2*k, k)
		for i := range rows {
			rows[i].Data = xor.Of(blocks, rows[i].Vec)
		}
		told, left := peel.Peel(k, rows)
		for _, row := range told {
			if !words.Valid(k, row.Vec) || words.Count(row.Vec) != 1 || row.Data != blocks[words.First(row.Vec)] {
				t.Fatalf("of %d blocks: %x is known", k, row)
			}
		}
		for _, row := range left {
			if !words.Valid(k, row.Vec) || words.Count(row.Vec) < 2 || !xor.Holds(blocks, row) {
				t.Fatalf("of %d blocks: %x is left", k, row)
			}
		}
		// Peeled again, nothing more is known, and nothing less.
		checkPeel(t, k, append(slices.Clone(left), told...), told, left)
	}
}

func TestRipple(t *testing.T) {
	type l = []api.Row
	wide := func(v ...uint64) api.Row { return api.Row{Vec: v} }
	rows := l{eq(7, ""), eq(3, ""), eq(24, ""), eq(1, ""), eq(1, "x"), eq(128, "y"), eq(24, "z"), eq(0, ""), {}}
	for name, c := range map[string]struct {
		known, rows l
		want        []int
	}{
		"none known":               {nil, rows, []int{3, 4, 5}},
		"none known, a list":       {l{}, rows, []int{3, 4, 5}},
		"no rows":                  {l{eq(1, "")}, nil, nil},
		"nothing at all":           {nil, nil, nil},
		"block 0 is known":         {l{eq(1, "")}, rows, []int{1, 5}},
		"block 1 is known":         {l{eq(2, "")}, rows, []int{1, 3, 4, 5}},
		"blocks 0 and 1":           {l{eq(1, ""), eq(2, "")}, rows, []int{0, 5}},
		"blocks 1 and 0":           {l{eq(2, ""), eq(1, "")}, rows, []int{0, 5}},
		"blocks 0 to 2":            {l{eq(4, ""), eq(1, ""), eq(2, "")}, rows, []int{5}},
		"blocks 3 and 7":           {l{eq(8, ""), eq(128, "")}, rows, []int{2, 3, 4, 6}},
		"a block that none has":    {l{eq(32, "")}, rows, []int{3, 4, 5}},
		"block 0 twice":            {l{eq(1, ""), eq(1, "")}, rows, []int{1, 5}},
		"block 0 twice, unlike":    {l{eq(1, "a"), eq(1, "b")}, rows, []int{1, 5}},
		"block 0 three times":      {l{eq(1, ""), eq(1, ""), eq(1, "")}, rows, []int{1, 5}},
		"the texts don't matter":   {l{eq(1, "some text")}, l{eq(3, "another"), eq(3, "")}, []int{0, 1}},
		"two bits don't count":     {l{eq(3, "")}, rows, []int{3, 4, 5}},
		"two bits beside one":      {l{eq(3, ""), eq(1, ""), eq(6, "")}, rows, []int{1, 5}},
		"two bits behind one":      {l{eq(1, ""), eq(3, "")}, rows, []int{1, 5}},
		"all bits don't count":     {l{eq(all, ""), wide(all, all)}, rows, []int{3, 4, 5}},
		"bits of two words":        {l{wide(1, 1)}, l{eq(3, ""), eq(1, ""), wide(1, 1)}, []int{1}},
		"no bit":                   {l{eq(0, ""), {}, wide(0, 0, 0)}, rows, []int{3, 4, 5}},
		"no words":                 {l{{}}, rows, []int{3, 4, 5}},
		"no words, a list":         {l{{Vec: []uint64{}}, {}}, rows, []int{3, 4, 5}},
		"no bit beside one":        {l{eq(0, ""), eq(1, ""), {}}, rows, []int{1, 5}},
		"rows of no bit":           {l{eq(1, "")}, l{eq(0, "x"), {}, wide(0, 0)}, nil},
		"all known":                {l{eq(1, ""), eq(2, "")}, l{eq(1, ""), eq(2, ""), eq(3, "")}, nil},
		"known beyond the row":     {l{wide(0, 1), wide(0, 0, 0, 1<<63)}, l{eq(3, ""), eq(1, ""), wide(1, 1)}, []int{1, 2}},
		"known beyond, the same":   {l{wide(0, 1)}, l{eq(1, ""), eq(2, ""), {}}, []int{0, 1}},
		"known with words behind":  {l{wide(1, 0, 0)}, l{eq(3, ""), eq(1, ""), wide(1, 1)}, []int{0, 2}},
		"rows with words behind":   {l{eq(1, "")}, l{wide(3, 0, 0), wide(1, 0), wide(1, 0, 4), wide(3, 0, 4)}, []int{0, 2}},
		"a bit in the third word":  {nil, l{wide(0, 0, 1<<63), wide(1, 0, 1), wide(0, 0, 3)}, []int{0}},
		"known in the third word":  {l{wide(0, 0, 1)}, l{wide(0, 0, 3), wide(1, 0, 1), wide(0, 0, 1)}, []int{0, 1}},
		"the same bit, other word": {l{wide(0, 1)}, l{eq(3, ""), wide(0, 3), wide(3, 1)}, []int{1}},
		"a short one behind":       {l{wide(0, 1), eq(1, "")}, l{wide(1, 3), wide(3, 1), wide(3, 3)}, []int{0, 1}},
		"a long one behind":        {l{eq(1, ""), wide(0, 1)}, l{wide(1, 3), wide(3, 1), wide(3, 3)}, []int{0, 1}},
		"the highest bits":         {l{eq(1<<63, "")}, l{eq(1<<63|1<<62, ""), eq(1<<63, ""), wide(1<<63, 1)}, []int{0, 2}},
	} {
		if got := peel.Ripple(c.known, c.rows); !slices.Equal(got, c.want) {
			t.Errorf("%s: Ripple(%x, %x): %x, not %x", name, c.known, c.rows, got, c.want)
		}
	}
}

// TestRippleEachBit: each bit, known or not, of rows longer than MaxK too, for the chapter sets no limit.
func TestRippleEachBit(t *testing.T) {
	for i := range 260 {
		one, two := of(i+1, "", i), of(i+2, "", i, i+1)
		for j := range 260 {
			known := []api.Row{of(j+1, "", j)}
			want := plainRipple(known, []api.Row{one, two})
			if got := peel.Ripple(known, []api.Row{one, two}); !slices.Equal(got, want) {
				t.Fatalf("Ripple of bit %d and rows of bits %d and the next: %x, not %x", j, i, got, want)
			}
		}
	}
}

// TestRippleEachShortList holds every short list against the chapter's words.
func TestRippleEachShortList(t *testing.T) {
	for code := range 1 << 12 {
		var l []api.Row
		for i := range 4 {
			l = append(l, eq(uint64(code>>(3*i)&7), ""))
		}
		for n := range len(l) + 1 {
			if got, want := peel.Ripple(l[:n], l[n:]), plainRipple(l[:n], l[n:]); !slices.Equal(got, want) {
				t.Fatalf("Ripple(%x, %x): %x, not %x", l[:n], l[n:], got, want)
			}
		}
	}
}

// TestRippleAny holds lists as chance has them against the chapter's words.
func TestRippleAny(t *testing.T) {
	r := rand.New(rand.NewPCG(13, 4))
	ready := 0
	for range 3000 {
		k := 1 + r.IntN(api.MaxK)
		known, rows := someRows(r, r.IntN(k+1), k), someRows(r, r.IntN(k+1), k)
		want := plainRipple(known, rows)
		if got := peel.Ripple(known, rows); !slices.Equal(got, want) {
			t.Fatalf("Ripple(%x, %x): %x, not %x", known, rows, got, want)
		}
		ready += len(want)
	}
	if ready < 10000 {
		t.Errorf("only %d rows in all", ready)
	}
}

// TestPeelAndRipple: what Peel knows leaves no row that could tell one more; and while one can, the first of them is told next.
func TestPeelAndRipple(t *testing.T) {
	r := rand.New(rand.NewPCG(13, 5))
	for range 300 {
		k := 1 + r.IntN(30)
		var rows []api.Row
		for range 2 * k {
			rows = append(rows, someRow(r, k))
		}
		told, left := peel.Peel(k, rows)
		if got := peel.Ripple(told, rows); len(got) != 0 {
			t.Fatalf("Ripple(%x, %x) behind Peel: %x", told, rows, got)
		}
		if got := peel.Ripple(nil, left); len(got) != 0 {
			t.Fatalf("Ripple of what is left, %x: %x", left, got)
		}
		var known []api.Row
		for next := peel.Ripple(nil, rows); len(next) > 0; next = peel.Ripple(known, rows) {
			known = append(known, without(rows[next[0]], known))
		}
		slices.SortFunc(known, func(a, b api.Row) int { return words.First(a.Vec) - words.First(b.Vec) })
		if !alike(known, told) {
			t.Fatalf("by Ripple %x are known, by Peel %x", known, told)
		}
	}
}

// without xors to r those of known that it has.
func without(r api.Row, known []api.Row) api.Row {
	l := []api.Row{r}
	for _, b := range known {
		if words.Get(r.Vec, words.First(b.Vec)) {
			l = append(l, b)
		}
	}
	return xor.Row(l)
}

// TestAgain (R5): the same call again gives the same, to the last byte, also on a copy and with other calls between.
func TestAgain(t *testing.T) {
	r := rand.New(rand.NewPCG(13, 6))
	for range 60 {
		k := 1 + r.IntN(api.MaxK)
		rows, known := someRows(r, 2*k, k), someRows(r, k, k)
		told, left := peel.Peel(k, rows)
		places := peel.Ripple(known, rows)
		for range 30 {
			rows = copied(rows)
			if a, b := peel.Peel(k, rows); !reflect.DeepEqual(a, told) || !reflect.DeepEqual(b, left) {
				t.Fatalf("Peel(%d, %x): %x and %x, then %x and %x", k, rows, told, left, a, b)
			}
			if again := peel.Ripple(known, rows); !reflect.DeepEqual(again, places) {
				t.Fatalf("Ripple(%x, %x): %x, then %x", known, rows, places, again)
			}
			peel.Peel(1+r.IntN(api.MaxK), known)
		}
	}
}

// copied gives the same rows in other memory, with room behind.
func copied(rows []api.Row) []api.Row {
	var out []api.Row
	for _, r := range rows {
		out = append(out, api.Row{Vec: behind(r.Vec), Data: strings.Clone(r.Data)})
	}
	return append(out, api.Row{Data: "behind", Vec: []uint64{0xDEAD}})[:len(out)]
}

// behind gives v with words behind its end, to tell whether a call touches them.
func behind(v []uint64) []uint64 {
	return append(slices.Clone(v), 0xDEAD, 0xBEEF)[:len(v)]
}

// untouched tells whether rows are as they were, with all that stands behind the ends.
func untouched(rows, was []api.Row) bool {
	if !alike(rows, was) {
		return false
	}
	for i, r := range rows {
		if n := len(was[i].Vec); !slices.Equal(r.Vec[n:n+2], []uint64{0xDEAD, 0xBEEF}) {
			return false
		}
	}
	more := rows[:len(was)+1][len(was)]
	return more.Data == "behind" && slices.Equal(more.Vec, []uint64{0xDEAD})
}

// spoil changes all that lies behind rows, up to the end of their memory.
func spoil(rows []api.Row) {
	for i := range rows {
		v := rows[i].Vec[:cap(rows[i].Vec)]
		for j := range v {
			v[j] = 0x5A5A5A5A5A5A5A5A
		}
	}
	clear(rows[:cap(rows)])
}

// someLists are lists that tell and leave something: each k and rows of it, of long texts and of unlike ones.
var someLists = []struct {
	k    int
	rows []api.Row
}{
	{6, []api.Row{eq(7, "seven"), eq(3, "th"), eq(24, "twenty-four"), eq(1, "one"), eq(1, "two"), eq(128, "beyond"), eq(24, "again"), eq(0, "none"), {Data: "no words"}}},
	{6, []api.Row{eq(1, "alone")}},
	{6, []api.Row{eq(3, "left")}},
	{6, []api.Row{eq(3, "left"), eq(12, "also"), eq(63, "all of them")}},
	{6, []api.Row{eq(1, "a long text"), eq(3, ""), eq(13, "")}},
	{128, []api.Row{of(128, "ends", 0, 127), of(128, "last", 127), of(128, "middle", 63, 64), of(128, "more", 0, 63, 64), of(129, "beyond", 128)}},
	{0, []api.Row{eq(1, "no blocks")}},
	{64, []api.Row{}},
}

// TestHandedIn (R4): no call changes what it is given, nor what lies behind a list's end.
func TestHandedIn(t *testing.T) {
	for _, c := range someLists {
		rows, known := copied(c.rows), copied(c.rows)
		peel.Peel(c.k, rows)
		peel.Ripple(known, rows)
		peel.Ripple(rows, rows)
		if !untouched(rows, c.rows) || !untouched(known, c.rows) {
			t.Errorf("Peel or Ripple of %x changed what was handed in: %x, %x", c.rows, rows, known)
		}
		// One list within another's end.
		peel.Peel(c.k, rows[:len(rows)/2])
		peel.Ripple(rows[:len(rows)/2], rows[len(rows)/2:])
		if !untouched(rows, c.rows) {
			t.Errorf("Peel or Ripple of parts of %x changed what was handed in: %x", c.rows, rows)
		}
	}
}

// TestPeelHandedOut (R4): what Peel gives is new memory, shared with nothing handed in and with no other answer, and nothing is kept.
func TestPeelHandedOut(t *testing.T) {
	for _, c := range someLists {
		rows := copied(c.rows)
		told, left := peel.Peel(c.k, rows)
		wantTold, wantLeft := copied(told), copied(left)
		again, againLeft := peel.Peel(c.k, rows)
		spoil(again)
		if !alike(left, wantLeft) || !alike(againLeft, wantLeft) || !alike(told, wantTold) || !untouched(rows, c.rows) {
			t.Errorf("Peel(%d, %x): what is known shares memory", c.k, c.rows)
		}
		spoil(againLeft)
		if !alike(left, wantLeft) || !alike(told, wantTold) || !untouched(rows, c.rows) {
			t.Errorf("Peel(%d, %x): what is left shares memory", c.k, c.rows)
		}
		for i := range left {
			spoilOne(t, left, wantLeft, i)
		}
		for i := range told {
			spoilOne(t, told, wantTold, i)
		}
		told, left = peel.Peel(c.k, rows)
		spoil(rows)
		if !alike(told, wantTold) || !alike(left, wantLeft) {
			t.Errorf("Peel(%d, %x): what was handed in is kept", c.k, c.rows)
		}
		if a, b := peel.Peel(c.k, c.rows); !alike(a, wantTold) || !alike(b, wantLeft) {
			t.Errorf("Peel(%d, %x): something is kept from call to call", c.k, c.rows)
		}
	}
}

// spoilOne fails, if a change of row i within its memory reaches another row; i is set right again.
func spoilOne(t *testing.T, rows, want []api.Row, i int) {
	t.Helper()
	v := rows[i].Vec[:cap(rows[i].Vec)]
	for j := range v {
		v[j] ^= all
	}
	for at := range rows {
		if at != i && !slices.Equal(rows[at].Vec, want[at].Vec) {
			t.Errorf("rows %d and %d of %x share memory", i, at, want)
		}
	}
	for j := range v {
		v[j] ^= all
	}
}

// TestTextsHandedOut (R4): no two texts of answers and of what was handed in lie in the same memory.
// Texts of one byte are left out: Go takes them from a table of its own, that nothing can change.
func TestTextsHandedOut(t *testing.T) {
	for _, c := range someLists {
		rows := copied(c.rows)
		a, b := peel.Peel(c.k, rows)
		d, e := peel.Peel(c.k, rows)
		whose := map[*byte]string{}
		for _, r := range slices.Concat(rows, a, b, d, e) {
			for i := range len(r.Data) {
				if len(r.Data) < 2 {
					continue
				}
				at := unsafe.StringData(r.Data[i:])
				if other, is := whose[at]; is {
					t.Fatalf("Peel(%d, %x): %q lies where %q does", c.k, c.rows, r.Data, other)
				}
				whose[at] = r.Data
			}
		}
	}
}

// TestRippleHandedOut (R4): each list of places is new memory.
func TestRippleHandedOut(t *testing.T) {
	for _, c := range someLists {
		rows, known := copied(c.rows), copied([]api.Row{eq(1, "one"), eq(3, "three")})
		one, other := peel.Ripple(known, rows), peel.Ripple(known, rows)
		want := slices.Clone(other)
		for i := range one[:cap(one)] {
			one[:cap(one)][i] = -7
		}
		spoil(rows)
		spoil(known)
		if !slices.Equal(other, want) || !slices.Equal(want, plainRipple([]api.Row{eq(1, "")}, c.rows)) {
			t.Errorf("Ripple of %x: %x, not %x", c.rows, other, want)
		}
	}
}

// TestLongLists: calls on many rows beside long ones end soon, for a long text or row is not copied for each of the others.
func TestLongLists(t *testing.T) {
	const many, size = 1 << 16, 1 << 20
	long := strings.Repeat("x", size)
	rows := []api.Row{eq(1, long), eq(6, "a")}
	for range many {
		rows = append(rows, eq(1, "y"), eq(6, "b"))
	}
	told, left := peel.Peel(3, rows)
	if !alike(told, []api.Row{eq(1, long)}) || !alike(left[:2], []api.Row{eq(6, "a"), eq(6, "b")}) || len(left) != many+1 {
		t.Errorf("Peel of a long list: %d known, %d left", len(told), len(left))
	}
	wide := api.Row{Vec: make([]uint64, size)}
	wide.Vec[size-1] = 1 << 63
	known := append([]api.Row{wide}, rows...)
	if got := peel.Ripple(known, append(rows, wide, eq(3, ""))); !slices.Equal(got, []int{len(rows) + 1}) {
		t.Errorf("Ripple of a long list: %d places", len(got))
	}
}
