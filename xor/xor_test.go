package xor_test

import (
	"slices"
	"strings"
	"testing"

	"bucketline/api"
	"bucketline/words"
	"bucketline/xor"
)

const all = ^uint64(0)

// somewhere gives a list with items behind its end, to tell whether a call touches or keeps them.
func somewhere[T any](behind T, items ...T) []T {
	return append(slices.Clone(items), behind, behind)[:len(items)]
}

// untouched tells whether list, made by somewhere, is still as it was, behind its end too.
func untouched[T comparable](list []T, behind T, items ...T) bool {
	return slices.Equal(list, items) && slices.Equal(list[len(items):len(items)+2], []T{behind, behind})
}

// spoil overwrites all memory that a row of bits can reach.
func spoil(v []uint64) {
	v = v[:cap(v)]
	for i := range v {
		v[i] = 0x5A5A5A5A5A5A5A5A
	}
}

// plain is the xor of texts told another way: byte by byte of the answer.
func plain(texts ...string) string {
	longest := 0
	for _, s := range texts {
		longest = max(longest, len(s))
	}
	out := make([]byte, longest)
	for i := range out {
		for _, s := range texts {
			if i < len(s) {
				out[i] ^= s[i]
			}
		}
	}
	return string(out)
}

func TestXor(t *testing.T) {
	for _, c := range []struct{ a, b, want string }{
		{"a", "b", "\x03"},
		{"a", "a", "\x00"},
		{"ab", "ab", "\x00\x00"},
		{"a", "ab", "\x00b"},
		{"abc", "\x00\x00", "abc"},
		{"\x00\x00\x00", "ab", "ab\x00"},
		{"", "x", "x"},
		{"", "\x00\x00", "\x00\x00"},
		{"", "", ""},
		{"\xff\x80", "\x0f\x7f", "\xf0\xff"},
		{"\xff", "\xc3\xa9", "\x3c\xa9"},
		{"é", "e", "\xa6\xa9"},
		{strings.Repeat("\xff", 1000), strings.Repeat("\x01", 999), strings.Repeat("\xfe", 999) + "\xff"},
	} {
		if got := xor.Xor(c.a, c.b); got != c.want {
			t.Errorf("Xor(%q, %q): %q, not %q", c.a, c.b, got, c.want)
		}
		if got := xor.Xor(c.b, c.a); got != c.want {
			t.Errorf("Xor(%q, %q): %q, not %q", c.b, c.a, got, c.want)
		}
	}
}

func TestXorEachPairOfBytes(t *testing.T) {
	for a := range 256 {
		for b := range 256 {
			if got, want := xor.Xor(string([]byte{7, byte(a)}), string([]byte{7, byte(b)})), string([]byte{0, byte(a) ^ byte(b)}); got != want {
				t.Fatalf("Xor of bytes %d, %d: %q, not %q", a, b, got, want)
			}
		}
	}
}

func TestSum(t *testing.T) {
	for _, c := range []struct {
		l    []string
		want string
	}{
		{nil, ""},
		{[]string{}, ""},
		{[]string{""}, ""},
		{[]string{"", "", ""}, ""},
		{[]string{"ab"}, "ab"},
		{[]string{"a", "b"}, "\x03"},
		{[]string{"a", "b", "ab"}, "bb"},
		{[]string{"ab", "a", "b"}, "bb"},
		{[]string{"a", "ab", "abc", "abcd"}, "\x00b\x00d"},
		{[]string{"ab", "ab"}, "\x00\x00"},
		{[]string{"ab", "ab", "ab"}, "ab"},
		{[]string{"", "x", ""}, "x"},
		{[]string{"\x00\x00\x00", "x"}, "x\x00\x00"},
	} {
		if got := xor.Sum(c.l); got != c.want {
			t.Errorf("Sum(%q): %q, not %q", c.l, got, c.want)
		}
	}
}

// TestSumOfAllLengths: three texts of all lengths to 5, in each order.
func TestSumOfAllLengths(t *testing.T) {
	for a := range 6 {
		for b := range 6 {
			for c := range 6 {
				l := []string{"\x11\x12\x14\x18\x1f"[:a], "\x21\x22\x24\x28\x2f"[:b], "\x41\x42\x44\x48\x4f"[:c]}
				if got, want := xor.Sum(l), plain(l...); got != want {
					t.Errorf("Sum(%q): %q, not %q", l, got, want)
				}
			}
		}
	}
}

func TestRow(t *testing.T) {
	for _, c := range []struct {
		l    []api.Row
		want api.Row
	}{
		{nil, api.Row{}},
		{[]api.Row{}, api.Row{}},
		{[]api.Row{{}}, api.Row{}},
		{[]api.Row{{}, {}, {}}, api.Row{}},
		{[]api.Row{{Vec: []uint64{5}, Data: "ab"}}, api.Row{Vec: []uint64{5}, Data: "ab"}},
		{[]api.Row{{Vec: []uint64{1}, Data: "a"}, {Vec: []uint64{3, 1}, Data: "bc"}}, api.Row{Vec: []uint64{2, 1}, Data: "\x03c"}},
		{[]api.Row{{Vec: []uint64{3, 1}, Data: "bc"}, {Vec: []uint64{1}, Data: "a"}}, api.Row{Vec: []uint64{2, 1}, Data: "\x03c"}},
		{[]api.Row{{Vec: []uint64{3}, Data: "a"}, {Vec: []uint64{3}, Data: "a"}}, api.Row{Vec: []uint64{0}, Data: "\x00"}},
		{[]api.Row{{Vec: []uint64{1}, Data: "a"}, {Vec: []uint64{2}, Data: "b"}, {Vec: []uint64{4}, Data: "d"}}, api.Row{Vec: []uint64{7}, Data: "g"}},
		{[]api.Row{{Vec: []uint64{1}}, {Data: "b"}}, api.Row{Vec: []uint64{1}, Data: "b"}},
		{[]api.Row{{Vec: []uint64{all, all, 6}, Data: "a"}, {}, {Vec: []uint64{1}, Data: ""}, {Vec: []uint64{0, 1 << 63}, Data: "\x00\x00\xff"}, {Vec: []uint64{2}, Data: "a"}}, api.Row{Vec: []uint64{all - 3, all >> 1, 6}, Data: "\x00\x00\xff"}},
	} {
		if got := xor.Row(c.l); !words.Same(got.Vec, c.want.Vec) || got.Data != c.want.Data {
			t.Errorf("Row(%v): %v, not %v", c.l, got, c.want)
		}
	}
}

// TestRowOfMany: each count of rows, each with a bit and a byte of its own.
func TestRowOfMany(t *testing.T) {
	var l []api.Row
	for n := range 130 {
		got := xor.Row(l)
		if words.Count(got.Vec) != n || len(got.Data) != n || (n > 0 && !words.Get(got.Vec, n-1)) || strings.Trim(got.Data, "\x01") != "" {
			t.Fatalf("Row of %d: %v", n, got)
		}
		l = append(l, api.Row{Vec: words.Set(make([]uint64, n/64+1), n, true), Data: strings.Repeat("\x00", n) + "\x01"})
	}
}

func TestOf(t *testing.T) {
	abc := []string{"a", "b", "c"}
	uneven := []string{"ab", "c", ""}
	for _, c := range []struct {
		blocks []string
		v      []uint64
		want   string
	}{
		{abc, []uint64{5}, "\x02"},
		{abc, []uint64{1}, "a"},
		{abc, []uint64{2}, "b"},
		{abc, []uint64{4}, "c"},
		{abc, []uint64{7}, "\x60"},
		{abc, []uint64{0}, ""},
		{abc, nil, ""},
		{abc, []uint64{}, ""},
		{abc, []uint64{8}, ""},
		{abc, []uint64{0xD}, "\x02"},
		{abc, []uint64{1 << 63, all}, ""},
		{abc, []uint64{all, all}, "\x60"},
		{uneven, []uint64{3}, "\x02b"},
		{uneven, []uint64{6}, "c"},
		{uneven, []uint64{4}, ""},
		{uneven, []uint64{7, 0, 0}, "\x02b"},
		{nil, []uint64{all}, ""},
		{[]string{}, nil, ""},
		{[]string{"\x00\x00"}, []uint64{1}, "\x00\x00"},
	} {
		if got := xor.Of(c.blocks, c.v); got != c.want {
			t.Errorf("Of(%q, %x): %q, not %q", c.blocks, c.v, got, c.want)
		}
	}
}

// many gives n blocks of one byte, no two of which that lie near one another are the same.
func many(n int) []string {
	blocks := make([]string, n)
	for i := range blocks {
		blocks[i] = string([]byte{byte(i + 1)})
	}
	return blocks
}

// TestOfEachBlock: more blocks than MaxK too, for the chapter sets no limit.
func TestOfEachBlock(t *testing.T) {
	for _, n := range []int{1, 63, 64, 65, 127, 128, 129, 200} {
		blocks := many(n)
		for i := range n + 70 {
			v := words.Set(make([]uint64, 5), i, true)
			want := ""
			if i < n {
				want = blocks[i]
			}
			if got := xor.Of(blocks, v); got != want {
				t.Errorf("Of(%d blocks, bit %d): %q, not %q", n, i, got, want)
			}
			if got := xor.Holds(blocks, api.Row{Vec: v, Data: want}); got != (i < n) {
				t.Errorf("Holds(%d blocks, bit %d): %t", n, i, got)
			}
		}
	}
}

func TestHolds(t *testing.T) {
	uneven := []string{"ab", "c", ""}
	for _, c := range []struct {
		blocks []string
		r      api.Row
		want   bool
	}{
		{uneven, api.Row{}, true},
		{uneven, api.Row{Vec: []uint64{0, 0}, Data: "\x00\x00\x00"}, true},
		{uneven, api.Row{Data: "\x01"}, false},
		{uneven, api.Row{Vec: []uint64{1}, Data: "ab"}, true},
		{uneven, api.Row{Vec: []uint64{1, 0}, Data: "ab"}, true},
		{uneven, api.Row{Vec: []uint64{1}, Data: "ab\x00"}, true},
		{uneven, api.Row{Vec: []uint64{1}, Data: "ab\x00\x01"}, false},
		{uneven, api.Row{Vec: []uint64{1}, Data: "abc"}, false},
		{uneven, api.Row{Vec: []uint64{1}, Data: "a"}, false},
		{uneven, api.Row{Vec: []uint64{1}, Data: ""}, false},
		{uneven, api.Row{Vec: []uint64{1}, Data: "bb"}, false},
		{uneven, api.Row{Vec: []uint64{1}, Data: "c"}, false},
		{uneven, api.Row{Vec: []uint64{3}, Data: "\x02b"}, true},
		{uneven, api.Row{Vec: []uint64{3}, Data: "\x02a"}, false},
		{uneven, api.Row{Vec: []uint64{4}}, true},
		{uneven, api.Row{Vec: []uint64{8}}, false},
		{uneven, api.Row{Vec: []uint64{9}, Data: "ab"}, false},
		{uneven, api.Row{Vec: []uint64{1 | 1<<63}, Data: "ab"}, false},
		{uneven, api.Row{Vec: []uint64{0, 1}}, false},
		{uneven, api.Row{Vec: []uint64{1, 1}, Data: "ab"}, false},
		{[]string{"a\x00"}, api.Row{Vec: []uint64{1}, Data: "a"}, true},
		{nil, api.Row{}, true},
		{nil, api.Row{Data: "\x00"}, true},
		{nil, api.Row{Data: "a"}, false},
		{nil, api.Row{Vec: []uint64{1}}, false},
		{[]string{}, api.Row{Vec: []uint64{0, 0, 1 << 63}}, false},
	} {
		if got := xor.Holds(c.blocks, c.r); got != c.want {
			t.Errorf("Holds(%q, %v): %t", c.blocks, c.r, got)
		}
	}
}

// TestOfLongLists: calls on many short texts beside a long one end soon, for none copies the long one again.
func TestOfLongLists(t *testing.T) {
	const n = 200000
	long := strings.Repeat("x", n)
	l := make([]string, n)
	rows := make([]api.Row, n)
	l[0], rows[0] = long, api.Row{Vec: make([]uint64, n), Data: long}
	for i := 1; i < n; i++ {
		l[i] = "x"
		rows[i] = api.Row{Vec: []uint64{1}, Data: "x"}
	}
	want := "\x00" + long[1:]
	if xor.Sum(l) != want || xor.Of(l, slices.Repeat([]uint64{all}, n/64)) != want {
		t.Error("Sum or Of of a long list")
	}
	if got := xor.Row(rows); got.Data != want || !words.Same(got.Vec, []uint64{1}) {
		t.Error("Row of a long list")
	}
}

// TestHandedIn (R4): no call changes what it is given, nor what lies behind a list's end.
func TestHandedIn(t *testing.T) {
	for name, call := range map[string]func(l []string, v, w []uint64, rows []api.Row){
		"Sum":   func(l []string, v, w []uint64, rows []api.Row) { xor.Sum(l); xor.Sum(l[:1]) },
		"Of":    func(l []string, v, w []uint64, rows []api.Row) { xor.Of(l, v); xor.Of(l, w) },
		"Row":   func(l []string, v, w []uint64, rows []api.Row) { xor.Row(rows); xor.Row(rows[:1]); xor.Row(rows[1:]) },
		"Holds": func(l []string, v, w []uint64, rows []api.Row) { xor.Holds(l, rows[0]); xor.Holds(l, rows[1]) },
	} {
		l := somewhere("behind", "ab", "c", "")
		v, w := somewhere[uint64](0xDEAD, 3), somewhere[uint64](0xDEAD, 6, 9)
		rows := append([]api.Row{{Vec: v, Data: "ab"}, {Vec: w, Data: "c"}}, api.Row{Data: "behind"})[:2]
		call(l, v, w, rows)
		if !untouched(l, "behind", "ab", "c", "") {
			t.Errorf("%s changed the texts: %q", name, l[:5])
		}
		if !untouched(v, 0xDEAD, 3) || !untouched(w, 0xDEAD, 6, 9) {
			t.Errorf("%s changed the bits: %x, %x", name, v[:3], w[:4])
		}
		if rows[0].Data != "ab" || rows[1].Data != "c" || rows[:3][2].Data != "behind" || rows[:3][2].Vec != nil || len(rows[0].Vec) != 1 || len(rows[1].Vec) != 2 {
			t.Errorf("%s changed the rows: %v", name, rows[:3])
		}
	}
}

// TestHandedOut (R4): a row that is given shares no memory with what was handed in, or with another answer; no text changes with what was handed in.
func TestHandedOut(t *testing.T) {
	for name, pick := range map[string]func(rows []api.Row) []api.Row{
		"one":             func(rows []api.Row) []api.Row { return rows[:1] },
		"two":             func(rows []api.Row) []api.Row { return rows[:2] },
		"all":             func(rows []api.Row) []api.Row { return rows },
		"with an empty":   func(rows []api.Row) []api.Row { return []api.Row{{}, rows[1]} },
		"an empty behind": func(rows []api.Row) []api.Row { return []api.Row{rows[1], {}} },
		"no words":        func(rows []api.Row) []api.Row { return []api.Row{{Vec: rows[0].Vec[:0]}} },
		"itself":          func(rows []api.Row) []api.Row { return []api.Row{rows[0], rows[0], rows[0]} },
	} {
		u, v, w := somewhere[uint64](0xDEAD, 3), somewhere[uint64](0xDEAD, 6, 9), somewhere[uint64](0xDEAD, 1)
		l := pick([]api.Row{{Vec: u, Data: "ab"}, {Vec: v, Data: "c"}, {Vec: w, Data: ""}})
		one, other := xor.Row(l), xor.Row(l)
		bits, data := slices.Clone(other.Vec), strings.Clone(other.Data)
		spoil(one.Vec)
		if !untouched(u, 0xDEAD, 3) || !untouched(v, 0xDEAD, 6, 9) || !untouched(w, 0xDEAD, 1) {
			t.Errorf("Row of %s: the answer shares memory with what was handed in", name)
		}
		if again := xor.Row(l); !slices.Equal(other.Vec, bits) || !slices.Equal(again.Vec, bits) {
			t.Errorf("Row of %s: two answers share memory", name)
		}
		spoil(u)
		spoil(v)
		spoil(w)
		clear(l)
		if !slices.Equal(other.Vec, bits) || other.Data != data {
			t.Errorf("Row of %s: what was handed in is kept", name)
		}
	}
}
