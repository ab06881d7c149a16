package gauss_test

import (
	"maps"
	"math"
	"math/rand/v2"
	"reflect"
	"slices"
	"strings"
	"testing"
	"unsafe"

	"bucketline/api"
	"bucketline/gauss"
	"bucketline/peel"
	"bucketline/xor"
)

const all = ^uint64(0)

// eq gives an equation of one word.
func eq(bits uint64, data string) api.Row { return api.Row{Vec: []uint64{bits}, Data: data} }

// wide gives an equation of several words.
func wide(data string, v ...uint64) api.Row { return api.Row{Vec: v, Data: data} }

// of gives an equation of those of k blocks.
func of(k int, data string, blocks ...int) api.Row {
	v := make([]uint64, (k+63)/64)
	for _, i := range blocks {
		v[i/64] |= 1 << (i % 64)
	}
	return api.Row{Vec: v, Data: data}
}

// bits gives the places of v's bits, by rising ones.
func bits(v []uint64) []int {
	var out []int
	for i := range len(v) * 64 {
		if v[i/64]>>(i%64)&1 == 1 {
			out = append(out, i)
		}
	}
	return out
}

// fits tells whether v is a row of k blocks, as chapter 1 says it.
func fits(k int, v []uint64) bool {
	b := bits(v)
	return k >= 1 && k <= 128 && len(v) == (k+63)/64 && (len(b) == 0 || b[len(b)-1] < k)
}

// plainXor xors texts byte by byte.
func plainXor(a, b string) string {
	out := make([]byte, max(len(a), len(b)))
	for i := range out {
		if i < len(a) {
			out[i] ^= a[i]
		}
		if i < len(b) {
			out[i] ^= b[i]
		}
	}
	return string(out)
}

// plainPeel tells chapter 13's Peel row by row: what is known, with what is left behind it.
func plainPeel(k int, rows []api.Row) []api.Row {
	known := map[int]string{}
	strip := func(r api.Row) ([]int, string) {
		var unknown []int
		data := r.Data
		for _, i := range bits(r.Vec) {
			if text, is := known[i]; is {
				data = plainXor(data, text)
			} else {
				unknown = append(unknown, i)
			}
		}
		return unknown, data
	}
	var valid, out []api.Row
	for _, r := range rows {
		if fits(k, r.Vec) {
			valid = append(valid, r)
		}
	}
again:
	for _, r := range valid {
		if unknown, data := strip(r); len(unknown) == 1 {
			known[unknown[0]] = data
			goto again
		}
	}
	for i := range 128 {
		if text, is := known[i]; is {
			out = append(out, of(k, text, i))
		}
	}
	for _, r := range valid {
		if unknown, data := strip(r); len(unknown) > 1 {
			out = append(out, of(k, data, unknown...))
		}
	}
	return out
}

// byChoices tells Solve in the words of chapters 4 and 14, by all choices of the rows: for short lists of one word.
func byChoices(k int, rows []api.Row) ([]string, bool) {
	var kept []api.Row
	for _, r := range rows {
		if !fits(k, r.Vec) {
			continue
		}
		if _, made := choice(kept, r.Vec[0]); !made {
			kept = append(kept, r)
		}
	}
	var out []string
	for i := range k {
		text, made := choice(kept, 1<<i)
		if !made {
			return nil, false
		}
		out = append(out, text)
	}
	return out, k >= 1
}

// choice gives the xor of the Datas of the rows whose bits make want.
func choice(rows []api.Row, want uint64) (string, bool) {
	for chosen := range 1 << len(rows) {
		var sum uint64
		text := ""
		for i, r := range rows {
			if chosen>>i&1 == 1 {
				sum ^= r.Vec[0]
				text = plainXor(text, r.Data)
			}
		}
		if sum == want {
			return text, true
		}
	}
	return "", false
}

// table is rows that are set against each other, all bits as bools: which bits each one has, and of which rows it is made.
type table []struct{ has, from []bool }

// reduce takes from has every first bit of the table's rows, and marks in from what was taken; it gives the first bit that stays, or -1.
func (t table) reduce(has, from []bool) int {
	for _, row := range t {
		if !has[slices.Index(row.has, true)] {
			continue
		}
		for i := range has {
			has[i] = has[i] != row.has[i]
		}
		for i := range from {
			from[i] = from[i] != row.from[i]
		}
	}
	return slices.Index(has, true)
}

// set gives the table of the rows that no rows ahead of them make; each has n bits.
func set(n int, rows []api.Row) table {
	var t table
	for place, r := range rows {
		has, from := make([]bool, n), make([]bool, len(rows))
		for _, i := range bits(r.Vec) {
			has[i] = true
		}
		from[place] = true
		if t.reduce(has, from) >= 0 {
			t = append(t, struct{ has, from []bool }{has, from})
		}
	}
	return t
}

// plainSolve tells Solve for lists of any length.
func plainSolve(k int, rows []api.Row) ([]string, bool) {
	var valid []api.Row
	for _, r := range rows {
		if fits(k, r.Vec) {
			valid = append(valid, r)
		}
	}
	var out []string
	t := set(128, valid)
	for i := range max(k, 0) {
		has, from := make([]bool, 128), make([]bool, len(valid))
		if i >= 128 {
			return nil, false
		}
		has[i] = true
		if t.reduce(has, from) >= 0 {
			return nil, false
		}
		text := ""
		for place, is := range from {
			if is {
				text = plainXor(text, valid[place].Data)
			}
		}
		out = append(out, text)
	}
	return out, k >= 1
}

// plainRank tells Rank for rows of any number of words.
func plainRank(rows []api.Row) int {
	most := 0
	for _, r := range rows {
		most = max(most, len(r.Vec)*64)
	}
	return len(set(most, rows))
}

// checkBoth fails, unless Solve and Decode tell just these blocks; nil for none.
func checkBoth(t *testing.T, name string, k int, rows []api.Row, solved, decoded []string) {
	t.Helper()
	if got, ok := gauss.Solve(k, rows); ok != (solved != nil) || !slices.Equal(got, solved) {
		t.Errorf("%s: Solve(%d, %x): %q, %v, not %q", name, k, rows, got, ok, solved)
	}
	if got, ok := gauss.Decode(k, rows); ok != (decoded != nil) || !slices.Equal(got, decoded) {
		t.Errorf("%s: Decode(%d, %x): %q, %v, not %q", name, k, rows, got, ok, decoded)
	}
}

func TestBoth(t *testing.T) {
	type l = []api.Row
	type s = []string
	for name, c := range map[string]struct {
		k    int
		rows l
		want s
	}{
		"the chapter's example":     {2, l{eq(3, "\x03"), eq(1, "a")}, s{"a", "b"}},
		"the chapter's other one":   {2, l{eq(3, "\x03")}, nil},
		"one block":                 {1, l{eq(1, "a")}, s{"a"}},
		"one block, no text":        {1, l{eq(1, "")}, s{""}},
		"two blocks, falling":       {2, l{eq(2, "b"), eq(1, "a")}, s{"a", "b"}},
		"no rows":                   {2, nil, nil},
		"no rows, a list":           {2, l{}, nil},
		"no rows of one block":      {1, nil, nil},
		"no bit":                    {1, l{eq(0, "x")}, nil},
		"no bit, all of them":       {2, l{eq(0, ""), eq(0, "x")}, nil},
		"no bit among others":       {2, l{eq(0, "x"), eq(3, "\x03"), eq(0, ""), eq(1, "a"), eq(0, "y")}, s{"a", "b"}},
		"twice":                     {2, l{eq(3, "\x03"), eq(3, "\x03")}, nil},
		"each twice":                {2, l{eq(3, "\x03"), eq(3, "\x03"), eq(1, "a"), eq(1, "a")}, s{"a", "b"}},
		"one block twice":           {1, l{eq(1, "a"), eq(1, "a")}, s{"a"}},
		"three of two, no more":     {3, l{eq(3, "\x03"), eq(6, "\x01"), eq(5, "\x02")}, nil},
		"three and all":             {3, l{eq(3, "\x03"), eq(6, "\x01"), eq(5, "\x02"), eq(7, "\x60")}, s{"a", "b", "c"}},
		"one of two could be told":  {2, l{eq(1, "a")}, nil},
		"two of three could":        {3, l{eq(1, "a"), eq(3, "\x03"), eq(2, "b")}, nil},
		"the last could":            {3, l{eq(4, "c"), eq(3, "\x03")}, nil},
		"all but the last could":    {3, l{eq(1, "a"), eq(2, "b"), eq(3, "\x03"), eq(0, "")}, nil},
		"peeling alone":             {3, l{eq(7, "\x60"), eq(3, "\x03"), eq(1, "a")}, s{"a", "b", "c"}},
		"nothing to peel":           {3, l{eq(3, "\x03"), eq(6, "\x01"), eq(7, "\x60")}, s{"a", "b", "c"}},
		"nothing to peel, two left": {4, l{eq(3, "\x03"), eq(12, "\x07"), eq(15, "\x04"), eq(5, "\x02")}, nil},
		"both are needed":           {4, l{eq(14, "e"), eq(6, "\x01"), eq(12, "\x07"), eq(3, "\x03"), eq(1, "a")}, s{"a", "b", "c", "d"}},
		"peeled, then eliminated":   {4, l{eq(6, "\x01"), eq(12, "\x07"), eq(15, "\x04"), eq(1, "a")}, s{"a", "b", "c", "d"}},
		"beyond the blocks":         {2, l{eq(4, "q"), eq(1, "a"), eq(2, "b")}, s{"a", "b"}},
		"beyond, and none other":    {2, l{eq(4, "q"), eq(1, "a")}, nil},
		"beyond among the bits":     {2, l{eq(1, "a"), eq(6, "b")}, nil},
		"beyond, made of two":       {2, l{eq(1, "a"), eq(6, "b"), eq(4, "c")}, nil},
		"beyond and the right one":  {2, l{eq(6, "x"), eq(1, "a"), eq(7, "y"), eq(2, "b"), eq(all, "z")}, s{"a", "b"}},
		"all bits":                  {1, l{eq(all, "x"), eq(1, "a")}, s{"a"}},
		"too many words":            {2, l{wide("x", 1, 0), wide("b", 2, 0)}, nil},
		"too many words for one":    {2, l{wide("x", 1, 0), eq(3, "\x03"), eq(1, "a"), wide("y", 2, 0, 0)}, s{"a", "b"}},
		"no words":                  {1, l{{Data: "x"}, {Vec: []uint64{}, Data: "y"}}, nil},
		"no words among others":     {1, l{{Data: "x"}, eq(1, "a"), {}}, s{"a"}},
		"too few words":             {65, l{eq(1, "a"), eq(all, "b")}, nil},
		"other lengths":             {2, l{eq(3, "abc"), eq(1, "a")}, s{"a", "\x00bc"}},
		"other lengths, long first": {2, l{eq(1, "abc"), eq(3, "a")}, s{"abc", "\x00bc"}},
		"bytes of 0 stay":           {2, l{eq(3, "abc"), eq(1, "abc\x00")}, s{"abc\x00", "\x00\x00\x00\x00"}},
		"texts that cancel":         {2, l{eq(3, "abc"), eq(1, "abc")}, s{"abc", "\x00\x00\x00"}},
		"a long one not taken":      {2, l{eq(3, "a"), eq(1, "b"), eq(3, "abcdef"), eq(2, "abcdef")}, s{"b", "\x03"}},
		"no text beside some":       {3, l{eq(1, ""), eq(3, "x"), eq(6, "")}, s{"", "x", "x"}},
		"k is 0":                    {0, l{eq(1, "a"), eq(0, ""), {}}, nil},
		"k is 0, no rows":           {0, nil, nil},
		"k is below 0":              {-1, l{eq(1, "a"), {}}, nil},
		"k is far below 0":          {-64, l{eq(1, "a"), {}}, nil},
		"k is the least":            {math.MinInt, l{eq(1, "a"), {}}, nil},
		"k is the greatest":         {math.MaxInt, l{eq(1, "a"), {}}, nil},
	} {
		checkBoth(t, name, c.k, c.rows, c.want, c.want)
	}
}

// TestUnlike: of rows that say different things it is seen which are taken; Solve by the rows as they came, Decode once they are peeled.
// Each row's text has a bit of its own.
func TestUnlike(t *testing.T) {
	type l = []api.Row
	type s = []string
	for name, c := range map[string]struct {
		k               int
		rows            l
		solved, decoded s
	}{
		"the first of two":        {1, l{eq(1, "\x01"), eq(1, "\x02")}, s{"\x01"}, s{"\x01"}},
		"the first of three":      {1, l{eq(0, "\x08"), eq(1, "\x01"), eq(1, "\x02"), eq(1, "\x04")}, s{"\x01"}, s{"\x01"}},
		"the pair ahead":          {2, l{eq(3, "\x01"), eq(1, "\x02"), eq(2, "\x04")}, s{"\x02", "\x03"}, s{"\x02", "\x03"}},
		"the pair in the middle":  {2, l{eq(2, "\x01"), eq(3, "\x02"), eq(1, "\x04")}, s{"\x03", "\x01"}, s{"\x03", "\x01"}},
		"the pair behind":         {2, l{eq(2, "\x01"), eq(1, "\x02"), eq(3, "\x04")}, s{"\x02", "\x01"}, s{"\x02", "\x01"}},
		"longer, and not taken":   {2, l{eq(2, "\x01"), eq(1, "\x02"), eq(3, "\x04\x04")}, s{"\x02", "\x01"}, s{"\x02", "\x01"}},
		"a circle":                {3, l{eq(3, "\x01"), eq(6, "\x02"), eq(5, "\x04"), eq(4, "\x08")}, s{"\x0b", "\x0a", "\x08"}, s{"\x0b", "\x0a", "\x08"}},
		"two that say the third":  {3, l{eq(6, "\x01"), eq(7, "\x02"), eq(5, "\x04"), eq(4, "\x08"), eq(5, "\x10")}, s{"\x03", "\x06", "\x07"}, s{"\x03", "\x09", "\x08"}},
		"the third alone, behind": {3, l{eq(3, "\x01"), eq(7, "\x02"), eq(4, "\x04"), eq(1, "\x08")}, s{"\x08", "\x09", "\x03"}, s{"\x08", "\x09", "\x04"}},
		"one that is of no blocks": {2, l{eq(5, "\x01"), eq(3, "\x02"), wide("\x04", 1, 0), eq(2, "\x08"), eq(1, "\x10")},
			s{"\x0a", "\x08"}, s{"\x0a", "\x08"}},
		// Peeling tells block 0 alone; 7 comes to 6 without it, and 6, that stood behind, says the same of other texts.
		"left ones in order": {3, l{eq(7, "\x01"), eq(6, "\x02"), eq(3, "\x04"), eq(1, "\x08")}, s{"\x03", "\x07", "\x05"}, s{"\x08", "\x0c", "\x05"}},
	} {
		checkBoth(t, name, c.k, c.rows, c.solved, c.decoded)
	}
}

// TestWords: rows of one word and of two, at the ends of each.
func TestWords(t *testing.T) {
	for _, k := range []int{63, 64, 65, 127, 128} {
		var chain, star, units []api.Row
		for i := range k {
			text := string([]byte{byte(i), byte(3 * i)})
			before := string([]byte{byte(i - 1), byte(3 * (i - 1))})
			units = append(units, of(k, text, i))
			if i > 0 {
				chain = append(chain, of(k, plainXor(text, before), i-1, i))
				// Block 0 has no byte but 0.
				star = append(star, of(k, text, 0, i))
			}
		}
		texts := make([]string, k)
		for i, r := range units {
			texts[i] = r.Data
		}
		checkBoth(t, "units", k, units, texts, texts)
		checkBoth(t, "all but one", k, units[1:], nil, nil)
		checkBoth(t, "all but the last", k, units[:k-1], nil, nil)
		checkBoth(t, "a chain alone", k, chain, nil, nil)
		checkBoth(t, "a chain and its head", k, append(slices.Clone(chain), units[0]), texts, texts)
		checkBoth(t, "a chain and its end", k, append(slices.Clone(chain), units[k-1]), texts, texts)
		checkBoth(t, "a star", k, append(slices.Clone(star), units[0]), texts, texts)
		// Three blocks say what the pairs can't: nothing is there to peel.
		three := of(k, plainXor(plainXor(texts[0], texts[k/2]), texts[k-1]), 0, k/2, k-1)
		checkBoth(t, "a chain and three", k, append(slices.Clone(chain), three), texts, texts)
		checkBoth(t, "three and a chain", k, append([]api.Row{three}, chain...), texts, texts)
		// Rows of other k's, that say something else.
		others := []api.Row{of(k+64, "x", 0), of(k+64, "y", k+63), {Data: "z"}}
		checkBoth(t, "among others", k, slices.Concat(others, units, others), texts, texts)
		checkBoth(t, "none but others", k, others, nil, nil)
		if k%64 != 0 {
			beyond := append([]api.Row{of(k, "x", k), of(k, "y", 0, k)}, units...)
			checkBoth(t, "beyond", k, beyond, texts, texts)
			checkBoth(t, "beyond in place of one", k, beyond[:k+1], nil, nil)
		}
	}
}

// TestEachK: at each k from below 0 to beyond MaxK the blocks alone are told, one less is not, and of no other k.
func TestEachK(t *testing.T) {
	for k := -2; k <= 131; k++ {
		var rows []api.Row
		var texts []string
		for i := range max(k, 0) {
			texts = append(texts, string([]byte{byte(i), 'x'}))
			rows = append(rows, of(k, texts[i], i))
		}
		if k < 1 || k > api.MaxK {
			checkBoth(t, "beyond", k, rows, nil, nil)
			continue
		}
		checkBoth(t, "all", k, rows, texts, texts)
		checkBoth(t, "one less", k, rows[:k-1], nil, nil)
		checkBoth(t, "of one more", k+1, rows, nil, nil)
		if k > 1 && k != 65 {
			checkBoth(t, "of one less", k-1, rows, texts[:k-1], texts[:k-1])
		}
	}
}

// TestOddK: k may be any int.
func TestOddK(t *testing.T) {
	lists := [][]api.Row{nil, {}, {{}}, {eq(0, "")}, {eq(1, "a")}, {eq(1, "a"), eq(2, "b"), eq(3, "c")}, {wide("x", 1, 1), wide("y", all, all)}}
	for _, k := range []int{math.MinInt, math.MinInt + 1, math.MinInt + 2, -1 << 32, -1<<32 + 2, -1 << 31, -129, -128, -65, -64, -63, -2, -1, 0,
		129, 130, 192, 256, 257, 258, 1 << 16, 1<<16 + 2, 1<<31 - 1, 1 << 31, 1<<32 + 1, 1<<32 + 2, 1<<62 + 2, math.MaxInt - 63, math.MaxInt - 1, math.MaxInt} {
		for _, rows := range lists {
			checkBoth(t, "odd", k, rows, nil, nil)
		}
	}
}

func TestRank(t *testing.T) {
	type l = []api.Row
	for name, c := range map[string]struct {
		rows l
		want int
	}{
		"no rows":                  {nil, 0},
		"no rows, a list":          {l{}, 0},
		"no words":                 {l{{}, {Data: "x"}, {Vec: []uint64{}}}, 0},
		"no bit":                   {l{eq(0, ""), eq(0, "x"), wide("", 0, 0, 0)}, 0},
		"one":                      {l{eq(1, "")}, 1},
		"rows 1 and 3":             {l{eq(1, "a"), eq(3, "b")}, 2},
		"rows 3 and 3":             {l{eq(3, "a"), eq(3, "a")}, 1},
		"rows 3 and 3, unlike":     {l{eq(3, "a"), eq(3, "b")}, 1},
		"rows 3, 6, 5":             {l{eq(3, ""), eq(6, ""), eq(5, "")}, 2},
		"rows 3, 6, 7":             {l{eq(3, ""), eq(6, ""), eq(7, "")}, 3},
		"no bit among others":      {l{eq(0, "x"), eq(1, ""), eq(0, ""), {}, eq(2, "")}, 2},
		"the highest bits":         {l{eq(1<<63, ""), eq(all, ""), eq(all>>1, "")}, 2},
		"words of 0 behind":        {l{eq(3, ""), wide("", 3, 0), wide("", 3, 0, 0)}, 1},
		"words of 0 behind, ahead": {l{wide("", 3, 0, 0), wide("", 3, 0), eq(3, "")}, 1},
		"unlike lengths":           {l{eq(3, ""), wide("", 3, 1), wide("", 0, 1)}, 2},
		"unlike lengths, all":      {l{wide("", 0, 0, 1), eq(1, ""), wide("", 0, 1), wide("", 1, 1, 1)}, 3},
		"longer than any k":        {l{wide("", 0, 0, 0, 0, 1), wide("", 0, 0, 0, 0, 3), wide("", 0, 0, 0, 0, 2)}, 2},
		"the second word":          {l{wide("", 0, 1), wide("", 0, 2), wide("", 1, 0), wide("", 1, 3)}, 3},
		"the same bit, other word": {l{eq(1, ""), wide("", 0, 1), wide("", 0, 0, 1)}, 3},
	} {
		if got := gauss.Rank(c.rows); got != c.want {
			t.Errorf("%s: Rank(%x): %d, not %d", name, c.rows, got, c.want)
		}
	}
}

// TestRankEachBit: units of more than MaxK blocks, of as many words as each needs.
func TestRankEachBit(t *testing.T) {
	var rows []api.Row
	for i := range 300 {
		if got := gauss.Rank(rows); got != i {
			t.Fatalf("Rank of %d units: %d", i, got)
		}
		rows = append(rows, of(i+1, "", i))
		if i > 0 {
			if got := gauss.Rank(append(rows[:i+1:i+1], of(i+1, "", i-1, i), rows[i/2])); got != i+1 {
				t.Fatalf("Rank of %d units and two rows of them: %d", i+1, got)
			}
		}
	}
}

// TestRankEachShortList: a list of rank n makes just 2^n rows.
func TestRankEachShortList(t *testing.T) {
	for code := range 1 << 16 {
		made := map[int]int{0: 0}
		var rows []api.Row
		for i := range 4 {
			bits := code >> (4 * i) & 15
			rows = append(rows, eq(uint64(bits), "x"))
			for _, m := range slices.Collect(maps.Keys(made)) {
				made[m^bits] = 0
			}
		}
		if got := gauss.Rank(rows); 1<<got != len(made) {
			t.Fatalf("Rank(%x): %d, but %d rows are made", rows, got, len(made))
		}
	}
}

// short gives the code's rows of n bits, each with a text of a length and a bit of its own.
func short(code, count, n int) []api.Row {
	var rows []api.Row
	for i := range count {
		rows = append(rows, eq(uint64(code>>(n*i)&(1<<n-1)), strings.Repeat("\x00", i)+string([]byte{1 << i})))
	}
	return rows
}

// TestEachShortList holds every short list against the chapters' words, told by trying all choices.
func TestEachShortList(t *testing.T) {
	told, unlike := 0, 0
	for _, c := range []struct{ k, bits, count int }{{1, 1, 4}, {1, 2, 4}, {2, 2, 5}, {2, 3, 4}, {3, 3, 4}, {4, 3, 4}, {4, 4, 3}} {
		for code := range 1 << (c.bits * c.count) {
			rows := short(code, c.count, c.bits)
			solved, ok := byChoices(c.k, rows)
			decoded, is := byChoices(c.k, plainPeel(c.k, rows))
			if ok != is {
				t.Fatalf("of %x of %d blocks the words tell %v and %v", rows, c.k, ok, is)
			}
			checkBoth(t, "short", c.k, rows, solved, decoded)
			if t.Failed() {
				return
			}
			if ok {
				told++
			}
			if !slices.Equal(solved, decoded) {
				unlike++
			}
		}
	}
	if told < 1000 || unlike < 10 {
		t.Errorf("only %d lists tell all, %d differ", told, unlike)
	}
}

// someText gives a text of chance, of a length of chance.
func someText(r *rand.Rand, most int) string {
	b := make([]byte, r.IntN(most+1))
	for i := range b {
		b[i] = byte(r.Uint32())
	}
	return string(b)
}

// someRow gives a row of k blocks with as many as degree of them.
func someRow(r *rand.Rand, k, degree int) api.Row {
	return of(k, someText(r, 6), r.Perm(k)[:min(degree, k)]...)
}

// someRows gives rows of k blocks as chance has them: with few and with many blocks, some twice, some that are not of k blocks.
func someRows(r *rand.Rand, count, k int) []api.Row {
	var rows []api.Row
	few := r.IntN(3)
	for range count {
		switch r.IntN(12) {
		case 0:
			rows = append(rows, of(k+64, someText(r, 6), r.IntN(k+64)))
		case 1:
			rows = append(rows, of(k, someText(r, 6)))
		case 2:
			if len(rows) > 0 {
				rows = append(rows, api.Row{Vec: rows[r.IntN(len(rows))].Vec, Data: someText(r, 6)})
			}
		case 3:
			v := someRow(r, k, 1).Vec
			v[len(v)-1] |= 1 << 63
			rows = append(rows, api.Row{Vec: v, Data: someText(r, 6)})
		default:
			degree := 1 + r.IntN(3)
			if few == 0 || few == 1 && r.IntN(4) == 0 {
				degree = 1 + r.IntN(k)
			}
			rows = append(rows, someRow(r, k, degree))
		}
	}
	return rows
}

// TestAny holds lists as chance has them, of one word and of two, against the chapters' words.
func TestAny(t *testing.T) {
	r := rand.New(rand.NewPCG(14, 1))
	told, unlike, open := 0, 0, 0
	for i := range 700 {
		k := 1 + r.IntN(12)
		if i%10 == 0 {
			k = 1 + r.IntN(api.MaxK)
		}
		rows := someRows(r, r.IntN(3*k+4), k)
		solved, ok := plainSolve(k, rows)
		decoded, is := plainSolve(k, plainPeel(k, rows))
		if ok != is {
			t.Fatalf("of %x of %d blocks the words tell %v and %v", rows, k, ok, is)
		}
		checkBoth(t, "any", k, rows, solved, decoded)
		if got, want := gauss.Rank(rows), plainRank(rows); got != want {
			t.Fatalf("Rank(%x): %d, not %d", rows, got, want)
		}
		if t.Failed() {
			return
		}
		if ok {
			told++
		} else {
			open++
		}
		if !slices.Equal(solved, decoded) {
			unlike++
		}
	}
	if told < 100 || open < 100 || unlike < 10 {
		t.Errorf("only %d lists tell all, %d do not, %d differ", told, open, unlike)
	}
}

// someBlocks gives k blocks, each one another, of as many bytes.
func someBlocks(r *rand.Rand, k int) []string {
	blocks := make([]string, k)
	for i := range blocks {
		blocks[i] = string([]byte{byte(i), byte(r.Uint32()), byte(r.Uint32())})
	}
	return blocks
}

// trueRows gives count rows of k blocks that are true of them; of a degree up to most.
func trueRows(r *rand.Rand, blocks []string, count, least, most int) []api.Row {
	var rows []api.Row
	for range count {
		row := someRow(r, len(blocks), least+r.IntN(most-least+1))
		row.Data = ""
		for _, i := range bits(row.Vec) {
			row.Data = plainXor(row.Data, blocks[i])
		}
		rows = append(rows, row)
	}
	return rows
}

// TestJustIfRank (14.2): of true rows both tell the blocks just if the rank is k, in whatever order the rows come.
func TestJustIfRank(t *testing.T) {
	r := rand.New(rand.NewPCG(14, 2))
	seen := map[string]int{}
	for i := range 1200 {
		k := 1 + r.IntN(16)
		if i%12 == 0 {
			k = 1 + r.IntN(api.MaxK)
		}
		blocks := someBlocks(r, k)
		count := max(0, k-3+r.IntN(8)+r.IntN(k+1))
		least, most := 1, 3
		if i%3 == 1 {
			least, most = min(2, k), k
		} else if i%3 == 2 {
			most = k
		}
		rows := trueRows(r, blocks, count, min(least, most), most)
		for _, row := range rows {
			if !xor.Holds(blocks, row) {
				t.Fatalf("%x does not hold", row)
			}
		}
		want := blocks
		if gauss.Rank(rows) != k {
			want = nil
		}
		for range 3 {
			checkBoth(t, "true", k, rows, want, want)
			r.Shuffle(len(rows), func(a, b int) { rows[a], rows[b] = rows[b], rows[a] })
		}
		if t.Failed() {
			return
		}
		seen[kind(k, rows, want != nil)]++
	}
	for _, name := range []string{"peeled", "eliminated", "both", "none", "some known"} {
		if seen[name] < 20 {
			t.Errorf("only %d lists of the kind %q: %v", seen[name], name, seen)
		}
	}
}

// kind tells how far peeling alone comes.
func kind(k int, rows []api.Row, told bool) string {
	known, _ := peel.Peel(k, rows)
	switch {
	case !told && len(known) > 0:
		return "some known"
	case !told:
		return "none"
	case len(known) == k:
		return "peeled"
	case len(known) == 0:
		return "eliminated"
	}
	return "both"
}

// TestEachOrder (14.2): all orders of some true rows, and of each list that lacks one of them.
func TestEachOrder(t *testing.T) {
	blocks := []string{"one", "two", "six", "ten"}
	for _, l := range [][]uint64{{1, 3, 7, 15}, {3, 6, 12, 7}, {3, 6, 12, 9}, {1, 6, 12, 14, 10}, {15, 7, 11, 13, 14}, {3, 3, 12, 5, 8}, {5, 10, 15, 6, 9}, {0, 1, 2, 4, 8}} {
		var rows []api.Row
		for _, v := range l {
			rows = append(rows, eq(v, xor.Of(blocks, []uint64{v})))
		}
		eachOrder(rows, len(rows), func() {
			for n := range len(rows) + 1 {
				var want []string
				if gauss.Rank(rows[:n]) == len(blocks) {
					want = blocks
				}
				checkBoth(t, "in order", len(blocks), rows[:n], want, want)
			}
		})
		if t.Failed() {
			return
		}
	}
}

// eachOrder calls do for each order of the first n rows.
func eachOrder(rows []api.Row, n int, do func()) {
	if n < 2 {
		do()
		return
	}
	for i := range n {
		rows[i], rows[n-1] = rows[n-1], rows[i]
		eachOrder(rows, n-1, do)
		rows[i], rows[n-1] = rows[n-1], rows[i]
	}
}

// TestRowByRow (14.2): as rows come one by one, the blocks are told from the one on that makes the rank k, and not ahead; at each k.
func TestRowByRow(t *testing.T) {
	r := rand.New(rand.NewPCG(14, 3))
	for k := 1; k <= api.MaxK; k++ {
		blocks := someBlocks(r, k)
		rows := trueRows(r, blocks, 4*k, 1, min(4, k))
		for i := range k {
			rows = append(rows, of(k, blocks[i], i))
		}
		n := 0
		for gauss.Rank(rows[:n]) < k {
			n++
		}
		if n > 0 {
			checkBoth(t, "one less", k, rows[:n-1], nil, nil)
		}
		checkBoth(t, "just now", k, rows[:n], blocks, blocks)
		if k%16 == 1 {
			checkBoth(t, "more", k, rows, blocks, blocks)
		}
	}
}

// TestAgain (R5): the same call again gives the same, to the last byte, also on a copy and with other calls between.
func TestAgain(t *testing.T) {
	r := rand.New(rand.NewPCG(14, 4))
	for range 40 {
		k := 1 + r.IntN(20)
		rows := append(someRows(r, 3*k, k), trueRows(r, someBlocks(r, k), k, 1, k)...)
		for i := range k {
			rows = append(rows, of(k, someText(r, 6), i))
		}
		rank := gauss.Rank(rows)
		solved, ok := gauss.Solve(k, rows)
		decoded, is := gauss.Decode(k, rows)
		if !ok || !is {
			t.Fatalf("nothing is told of %x", rows)
		}
		for range 20 {
			rows = copied(rows)
			if a, on := gauss.Solve(k, rows); !on || !reflect.DeepEqual(a, solved) {
				t.Fatalf("Solve(%d, %x): %q, then %q", k, rows, solved, a)
			}
			if a, on := gauss.Decode(k, rows); !on || !reflect.DeepEqual(a, decoded) {
				t.Fatalf("Decode(%d, %x): %q, then %q", k, rows, decoded, a)
			}
			if a := gauss.Rank(rows); a != rank {
				t.Fatalf("Rank(%x): %d, then %d", rows, rank, a)
			}
			gauss.Decode(k, someRows(r, k, k))
			gauss.Solve(k+1, rows)
		}
	}
}

// copied gives the same rows in other memory, with room behind.
func copied(rows []api.Row) []api.Row {
	var out []api.Row
	for _, r := range rows {
		out = append(out, api.Row{Vec: append(slices.Clone(r.Vec), 0xDEAD, 0xBEEF)[:len(r.Vec)], Data: strings.Clone(r.Data)})
	}
	return append(out, api.Row{Data: "behind", Vec: []uint64{0xDEAD}})[:len(out)]
}

// untouched tells whether rows are as they were, with all that stands behind the ends.
func untouched(rows, was []api.Row) bool {
	for i, r := range rows {
		n := len(was[i].Vec)
		if !slices.Equal(r.Vec, was[i].Vec) || r.Data != was[i].Data || !slices.Equal(r.Vec[n:n+2], []uint64{0xDEAD, 0xBEEF}) {
			return false
		}
	}
	more := rows[:len(was)+1][len(was)]
	return more.Data == "behind" && slices.Equal(more.Vec, []uint64{0xDEAD})
}

// someLists tell all blocks or not, by peeling, by elimination, by both.
var someLists = []struct {
	k    int
	rows []api.Row
}{
	{3, []api.Row{eq(1, "one"), eq(2, "two"), eq(4, "four")}},
	{3, []api.Row{eq(4, "four"), eq(2, "two"), eq(1, "one"), eq(1, "other")}},
	{3, []api.Row{eq(3, "three"), eq(6, "six"), eq(7, "seven")}},
	{3, []api.Row{eq(3, "three"), eq(6, "six"), eq(5, "five")}},
	{4, []api.Row{eq(14, "fourteen"), eq(6, "six"), eq(12, "twelve"), eq(3, "three"), eq(1, "one"), eq(16, "beyond"), {Data: "no words"}}},
	{2, []api.Row{eq(3, ""), eq(1, "alone"), eq(0, "none")}},
	{1, []api.Row{eq(1, "a block alone")}},
	{1, []api.Row{wide("none of them", 1, 0), {}}},
	{0, []api.Row{eq(1, "no blocks")}},
	{2, []api.Row{}},
}

// TestHandedIn (R4): no call changes what it is given, nor what lies behind a list's end.
func TestHandedIn(t *testing.T) {
	for _, c := range someLists {
		rows := copied(c.rows)
		for n := range len(rows) + 1 {
			gauss.Rank(rows[:n])
			gauss.Solve(c.k, rows[:n])
			gauss.Decode(c.k, rows[:n])
		}
		if !untouched(rows, c.rows) {
			t.Errorf("a call on %x changed it: %x", c.rows, rows)
		}
	}
}

// TestHandedOut (R4): the blocks are new memory, shared with no other answer and nothing handed in; and nothing is kept.
func TestHandedOut(t *testing.T) {
	for name, call := range map[string]func(int, []api.Row) ([]string, bool){"Solve": gauss.Solve, "Decode": gauss.Decode} {
		for _, c := range someLists {
			rows := copied(c.rows)
			one, ok := call(c.k, rows)
			want := slices.Clone(one)
			other, _ := call(c.k, rows)
			for i := range other[:cap(other)] {
				other[:cap(other)][i] = "spoilt"
			}
			for i := range rows {
				clear(rows[i].Vec)
			}
			clear(rows)
			again, is := call(c.k, c.rows)
			if !slices.Equal(one, want) || !slices.Equal(again, want) || ok != is {
				t.Errorf("%s(%d, %x): %q, then %q, %q", name, c.k, c.rows, want, one, again)
			}
			if !ok && len(one) != 0 {
				t.Errorf("%s(%d, %x): false beside %q", name, c.k, c.rows, one)
			}
		}
	}
}

// TestTextsHandedOut (R4): no two texts of answers and of what was handed in lie in the same memory.
// Texts of one byte are left out: Go takes them from a table of its own, that nothing can change.
func TestTextsHandedOut(t *testing.T) {
	for _, c := range someLists {
		rows := copied(c.rows)
		var texts []string
		for _, r := range rows {
			texts = append(texts, r.Data)
		}
		for range 2 {
			a, _ := gauss.Solve(c.k, rows)
			b, _ := gauss.Decode(c.k, rows)
			texts = slices.Concat(texts, a, b)
		}
		whose := map[*byte]string{}
		for _, text := range texts {
			for i := range len(text) {
				if len(text) < 2 {
					continue
				}
				at := unsafe.StringData(text[i:])
				if other, is := whose[at]; is {
					t.Fatalf("of %d, %x: %q lies where %q does", c.k, c.rows, text, other)
				}
				whose[at] = text
			}
		}
	}
}

// TestLongLists: calls on many rows, and on rows of long texts, end soon.
func TestLongLists(t *testing.T) {
	const many = 1 << 16
	long := strings.Repeat("x", 1<<20)
	rows := []api.Row{eq(3, long), eq(6, "a")}
	for range many {
		rows = append(rows, eq(3, "y"), eq(5, "b"))
	}
	checkBoth(t, "long", 3, rows, nil, nil)
	if got := gauss.Rank(rows); got != 2 {
		t.Errorf("Rank of a long list: %d", got)
	}
	rows = append(rows, eq(2, "c"))
	want := []string{plainXor(long, "c"), "c", plainXor("a", "c")}
	if got, ok := gauss.Solve(3, rows); !ok || !slices.Equal(got, want) {
		t.Error("Solve of a long list")
	}
	if got, ok := gauss.Decode(3, rows); !ok || !slices.Equal(got, want) {
		t.Error("Decode of a long list")
	}
	wideRows := []api.Row{{Vec: make([]uint64, 1<<20)}}
	wideRows[0].Vec[1<<20-1] = 1
	if got := gauss.Rank(append(wideRows, rows...)); got != 4 {
		t.Errorf("Rank of a long list with a long row: %d", got)
	}
}
