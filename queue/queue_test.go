package queue_test

import (
	"math"
	"math/rand/v2"
	"strconv"
	"strings"
	"testing"
	"unsafe"

	"bucketline/api"
	"bucketline/queue"
)

// maxCap is the document's limit, by number.
const maxCap = 256

// mosts are of every kind: at the document's edges, around them, and such as would be another one in fewer bits; with the room that each gives.
var mosts = []struct{ most, room int }{
	{math.MinInt, 0}, {math.MinInt + 1, 0}, {-1 << 62, 0}, {-1 << 32, 0}, {-1<<32 + 3, 0}, {-1 << 31, 0}, {-257, 0}, {-256, 0}, {-255, 0}, {-2, 0}, {-1, 0},
	{0, 0}, {1, 1}, {2, 2}, {3, 3}, {4, 4}, {127, 127}, {128, 128}, {129, 129}, {254, 254}, {255, 255}, {256, 256},
	{257, 256}, {258, 256}, {511, 256}, {512, 256}, {1000, 256}, {1 << 16, 256}, {1<<31 - 1, 256}, {1 << 31, 256}, {1<<32 - 1, 256}, {1 << 32, 256}, {1<<32 + 1, 256}, {1 << 62, 256}, {math.MaxInt - 1, 256}, {math.MaxInt, 256},
}

// model is a queue, told by the chapter's words.
type model struct {
	most, lost int
	waiting    []string
}

func modelled(most int) *model {
	switch {
	case most < 0:
		most = 0
	case most > maxCap:
		most = maxCap
	}
	return &model{most: most}
}

func (m *model) put(s string) bool {
	if len(m.waiting) == m.most {
		m.lost++
		return false
	}
	m.waiting = append(m.waiting, strings.Clone(s))
	return true
}

func (m *model) take() (string, bool) {
	if len(m.waiting) == 0 {
		return "", false
	}
	s := m.waiting[0]
	m.waiting = m.waiting[1:]
	return s, true
}

func (m *model) clear() {
	m.waiting, m.lost = nil, 0
}

// check holds what a queue tells against the model, twice, as to ask changes nothing.
func check(t *testing.T, name string, q *queue.Queue, m *model) {
	t.Helper()
	for range 2 {
		if got, want := q.Len(), len(m.waiting); got != want {
			t.Errorf("%s: Len is %d, not %d", name, got, want)
		}
		if got, want := q.Lost(), m.lost; got != want {
			t.Errorf("%s: Lost is %d, not %d", name, got, want)
		}
	}
}

func put(t *testing.T, name string, q *queue.Queue, m *model, s string) {
	t.Helper()
	if got, want := q.Put(s), m.put(s); got != want {
		t.Errorf("%s: Put(%.40q) is %t, not %t", name, s, got, want)
	}
	check(t, name, q, m)
}

func take(t *testing.T, name string, q *queue.Queue, m *model) {
	t.Helper()
	s, ok := q.Take()
	want, is := m.take()
	if s != want || ok != is {
		t.Errorf("%s: Take is %.40q, %t, not %.40q, %t", name, s, ok, want, is)
	}
	check(t, name, q, m)
}

func emptied(t *testing.T, name string, q *queue.Queue, m *model) {
	t.Helper()
	q.Clear()
	m.clear()
	check(t, name, q, m)
}

// drained takes all that wait, and once more.
func drained(t *testing.T, name string, q *queue.Queue, m *model) {
	t.Helper()
	for range len(m.waiting) + 1 {
		take(t, name, q, m)
	}
	if s, ok := q.Take(); s != "" || ok || q.Len() != 0 {
		t.Errorf("%s: once none is left, Take is %q, %t, and Len is %d", name, s, ok, q.Len())
	}
}

// filled gives a queue of that room with as many texts, the model beside it, and so many lost.
func filled(t *testing.T, most, lost int) (*queue.Queue, *model) {
	t.Helper()
	q, m := queue.New(most), modelled(most)
	for i := range m.most + lost {
		put(t, "filling", q, m, strconv.Itoa(i))
	}
	return q, m
}

// TestExample is the chapter's.
func TestExample(t *testing.T) {
	q := queue.New(1)
	if !q.Put("a") || q.Put("b") {
		t.Error("of a queue of 1 the second Put is false")
	}
	if q.Len() != 1 || q.Lost() != 1 {
		t.Errorf("Len is %d, Lost %d", q.Len(), q.Lost())
	}
	if s, ok := q.Take(); s != "a" || !ok {
		t.Errorf("Take is %q, %t", s, ok)
	}
}

// step is a call: "+" and a text is put, "-" takes, "!" clears; what it answers, and what is told behind it.
type step struct {
	call      string
	text      string // that Take answers
	ok        bool
	len, lost int
}

func did(q *queue.Queue, call string) (string, bool) {
	switch call[0] {
	case '+':
		return "", q.Put(call[1:])
	case '-':
		return q.Take()
	}
	q.Clear()
	return "", false
}

// TestSteps: fixed queues, call by call, by hand.
func TestSteps(t *testing.T) {
	for _, c := range []struct {
		name  string
		most  int
		steps []step
	}{
		{"of 0", 0, []step{
			{"-", "", false, 0, 0}, {"+a", "", false, 0, 1}, {"+", "", false, 0, 2}, {"-", "", false, 0, 2}, {"+a", "", false, 0, 3}, {"!", "", false, 0, 0}, {"+b", "", false, 0, 1}, {"-", "", false, 0, 1},
		}},
		{"below 0", -1, []step{{"+a", "", false, 0, 1}, {"-", "", false, 0, 1}, {"+a", "", false, 0, 2}, {"!", "", false, 0, 0}, {"+a", "", false, 0, 1}}},
		{"of 1", 1, []step{
			{"+a", "", true, 1, 0}, {"+b", "", false, 1, 1}, {"+a", "", false, 1, 2}, {"-", "a", true, 0, 2}, {"-", "", false, 0, 2}, {"+c", "", true, 1, 2}, {"+d", "", false, 1, 3}, {"-", "c", true, 0, 3},
		}},
		{"what is lost is not behind", 2, []step{
			{"+a", "", true, 1, 0}, {"+b", "", true, 2, 0}, {"+c", "", false, 2, 1}, {"+d", "", false, 2, 2}, {"-", "a", true, 1, 2}, {"-", "b", true, 0, 2}, {"-", "", false, 0, 2},
		}},
		{"a place that is free again", 2, []step{
			{"+a", "", true, 1, 0}, {"+b", "", true, 2, 0}, {"+c", "", false, 2, 1}, {"-", "a", true, 1, 1}, {"+d", "", true, 2, 1}, {"+e", "", false, 2, 2}, {"-", "b", true, 1, 2}, {"-", "d", true, 0, 2}, {"-", "", false, 0, 2},
		}},
		{"empty texts wait as others do", 3, []step{
			{"+", "", true, 1, 0}, {"+", "", true, 2, 0}, {"+a", "", true, 3, 0}, {"+", "", false, 3, 1}, {"-", "", true, 2, 1}, {"-", "", true, 1, 1}, {"-", "a", true, 0, 1}, {"-", "", false, 0, 1},
		}},
		{"the same text again", 3, []step{
			{"+a", "", true, 1, 0}, {"+a", "", true, 2, 0}, {"+b", "", true, 3, 0}, {"+a", "", false, 3, 1}, {"-", "a", true, 2, 1}, {"+a", "", true, 3, 1}, {"-", "a", true, 2, 1}, {"-", "b", true, 1, 1}, {"-", "a", true, 0, 1}, {"-", "", false, 0, 1},
		}},
		{"in order, whichever is the lesser", 4, []step{
			{"+d", "", true, 1, 0}, {"+a", "", true, 2, 0}, {"+c", "", true, 3, 0}, {"+b", "", true, 4, 0}, {"-", "d", true, 3, 0}, {"-", "a", true, 2, 0}, {"-", "c", true, 1, 0}, {"-", "b", true, 0, 0},
		}},
		{"clear", 2, []step{
			{"!", "", false, 0, 0}, {"+a", "", true, 1, 0}, {"!", "", false, 0, 0}, {"-", "", false, 0, 0}, {"+b", "", true, 1, 0}, {"+c", "", true, 2, 0}, {"+d", "", false, 2, 1}, {"!", "", false, 0, 0},
			{"-", "", false, 0, 0}, {"+e", "", true, 1, 0}, {"+f", "", true, 2, 0}, {"+g", "", false, 2, 1}, {"-", "e", true, 1, 1}, {"-", "f", true, 0, 1}, {"!", "", false, 0, 0}, {"!", "", false, 0, 0},
		}},
	} {
		q := queue.New(c.most)
		if q.Len() != 0 || q.Lost() != 0 {
			t.Errorf("%s: a new one tells %d, %d", c.name, q.Len(), q.Lost())
		}
		for i, s := range c.steps {
			text, ok := did(q, s.call)
			if text != s.text || ok != s.ok || q.Len() != s.len || q.Lost() != s.lost {
				t.Errorf("%s, step %d: %q, %t, Len %d, Lost %d, not %v", c.name, i, text, ok, q.Len(), q.Lost(), s)
			}
		}
	}
}

// TestNew: room for as many texts as the bound says and no more, at its edges and far beyond them, at first and behind Clear.
func TestNew(t *testing.T) {
	for _, c := range mosts {
		q := queue.New(c.most)
		if s, ok := q.Take(); s != "" || ok || q.Len() != 0 || q.Lost() != 0 {
			t.Fatalf("most %d: a new one tells %q, %t, %d, %d", c.most, s, ok, q.Len(), q.Lost())
		}
		for range 2 {
			for i := range 300 {
				if got := q.Put(strconv.Itoa(i)); got != (i < c.room) {
					t.Fatalf("most %d: Put %d is %t", c.most, i, got)
				}
				if q.Len() != min(i+1, c.room) || q.Lost() != max(0, i+1-c.room) {
					t.Fatalf("most %d: behind Put %d Len is %d, Lost %d", c.most, i, q.Len(), q.Lost())
				}
			}
			for i := range c.room {
				if s, ok := q.Take(); s != strconv.Itoa(i) || !ok || q.Len() != c.room-i-1 || q.Lost() != 300-c.room {
					t.Fatalf("most %d: Take %d is %q, %t, Len %d, Lost %d", c.most, i, s, ok, q.Len(), q.Lost())
				}
			}
			if s, ok := q.Take(); s != "" || ok || q.Len() != 0 || q.Lost() != 300-c.room {
				t.Fatalf("most %d: one more is %q, %t", c.most, s, ok)
			}
			q.Clear()
			if q.Len() != 0 || q.Lost() != 0 {
				t.Fatalf("most %d: Clear leaves %d, %d", c.most, q.Len(), q.Lost())
			}
		}
	}
}

// TestEachMost: every bound from a bit below 0 to a bit beyond MaxCap: the last text for which there is room, and the first for which there is none.
func TestEachMost(t *testing.T) {
	for most := -3; most <= maxCap+3; most++ {
		q, m := filled(t, most, 3)
		take(t, "one out", q, m)
		put(t, "one in", q, m, "last")
		put(t, "none more", q, m, "lost")
		drained(t, "each most", q, m)
		if t.Failed() {
			t.Fatalf("most %d", most)
		}
	}
}

// TestPutFull: again and again, each one is lost, and none of those that wait is changed.
func TestPutFull(t *testing.T) {
	for _, most := range []int{-1, 0, 1, 2, 255, 256, 257} {
		q, m := filled(t, most, 0)
		for i := range 2000 {
			if q.Put("x") || q.Lost() != i+1 || q.Len() != m.most {
				t.Fatalf("most %d: behind Put %d Len is %d, Lost %d", most, i, q.Len(), q.Lost())
			}
			m.put("x")
		}
		drained(t, "full", q, m)
	}
}

// TestLostGoesOn: Lost is counted on beyond what fewer bits hold.
func TestLostGoesOn(t *testing.T) {
	q := queue.New(0)
	for range 1<<16 + 5 {
		q.Put("")
	}
	if q.Lost() != 1<<16+5 || q.Len() != 0 {
		t.Errorf("Lost is %d, Len %d", q.Lost(), q.Len())
	}
}

// TestTexts: texts of each kind come out as they went in.
func TestTexts(t *testing.T) {
	every := make([]byte, 256)
	for i := range every {
		every[i] = byte(i)
	}
	texts := []string{"", "a", "\x00", "\x00\x00", "a\x00", "\x00a", "\xff\xfe", "\xc3", "é", "日本", "a\nb", string(every), strings.Repeat("x", 255), strings.Repeat("x", 256), strings.Repeat("y", 65536), strings.Repeat("long ", 1<<20), "", "a"}
	for _, most := range []int{1, 2, len(texts) - 1, len(texts), maxCap} {
		q, m := queue.New(most), modelled(most)
		for _, s := range texts {
			put(t, "texts", q, m, s)
		}
		drained(t, "texts", q, m)
		for _, s := range texts {
			put(t, "by itself", q, m, s)
			take(t, "by itself", q, m)
		}
		drained(t, "texts", q, m)
	}
}

// TestTakeEmpty: of none, however often, ahead of all and between; Lost is not changed.
func TestTakeEmpty(t *testing.T) {
	for _, most := range []int{-1, 0, 1, 2, 256} {
		q, m := queue.New(most), modelled(most)
		for range 3 {
			take(t, "empty", q, m)
		}
		put(t, "empty", q, m, "")
		put(t, "empty", q, m, "a")
		for range 5 {
			take(t, "emptied", q, m)
		}
		for range m.most + 2 {
			put(t, "as much room as ever", q, m, "b")
		}
		drained(t, "empty", q, m)
	}
}

// TestAround: more go through than there is room for, many times over, with each number that waits meanwhile.
func TestAround(t *testing.T) {
	for _, most := range []int{1, 2, 3, 5, 8, 256} {
		for _, waiting := range []int{0, 1, most / 2, most - 1, most} {
			q, m := queue.New(most), modelled(most)
			for i := range waiting {
				put(t, "around", q, m, strconv.Itoa(-i))
			}
			for i := range 10 * most {
				// A full one has no room ahead of Take.
				if waiting == most {
					put(t, "around", q, m, "lost")
					take(t, "around", q, m)
					put(t, "around", q, m, strconv.Itoa(i))
				} else {
					put(t, "around", q, m, strconv.Itoa(i))
					take(t, "around", q, m)
				}
			}
			drained(t, "around", q, m)
			if t.Failed() {
				t.Fatalf("most %d, waiting %d", most, waiting)
			}
		}
	}
}

// TestFillAndDrain: filled and emptied in turn, by lengths that do not go into the room.
func TestFillAndDrain(t *testing.T) {
	for _, most := range []int{1, 2, 3, 7, 16, 255, 256} {
		q, m := queue.New(most), modelled(most)
		n := 0
		for round := range 20 {
			for range (round*5)%(most+3) + 1 {
				put(t, "in", q, m, strconv.Itoa(n))
				n++
			}
			for range (round*3)%(most+2) + 1 {
				take(t, "out", q, m)
			}
		}
		drained(t, "all", q, m)
		if t.Failed() {
			t.Fatalf("most %d", most)
		}
	}
}

// TestClear: of each number that waits and that is lost; from there on it does as a new one of that most.
func TestClear(t *testing.T) {
	for _, most := range []int{math.MinInt, -1, 0, 1, 2, 3, 255, 256, 257, math.MaxInt} {
		for _, lost := range []int{0, 1, 5} {
			for _, out := range []int{0, 1, 2, 300} {
				q, m := filled(t, most, lost)
				for range out {
					take(t, "ahead", q, m)
				}
				emptied(t, "clear", q, m)
				emptied(t, "again", q, m)
				take(t, "behind", q, m)
				anew := queue.New(most)
				for i := range m.most + 3 {
					s := "new" + strconv.Itoa(i)
					put(t, "filled again", q, m, s)
					anew.Put(s)
				}
				if q.Len() != anew.Len() || q.Lost() != anew.Lost() {
					t.Errorf("%d, %d; a new one tells %d, %d", q.Len(), q.Lost(), anew.Len(), anew.Lost())
				}
				drained(t, "filled again", q, m)
				if t.Failed() {
					t.Fatalf("most %d, lost %d, out %d", most, lost, out)
				}
			}
		}
	}
}

// TestNil: a queue that is none.
func TestNil(t *testing.T) {
	var q *queue.Queue
	for range 3 {
		for _, s := range []string{"", "a", strings.Repeat("x", 1000)} {
			if q.Put(s) {
				t.Error("Put into none")
			}
		}
		if s, ok := q.Take(); s != "" || ok {
			t.Errorf("Take of none: %q, %t", s, ok)
		}
		if q.Len() != 0 || q.Lost() != 0 {
			t.Errorf("none tells %d, %d", q.Len(), q.Lost())
		}
		q.Clear()
	}
}

// TestNotMade: a queue that New did not make is as one of no room.
func TestNotMade(t *testing.T) {
	q, m := new(queue.Queue), modelled(0)
	take(t, "not made", q, m)
	put(t, "not made", q, m, "a")
	emptied(t, "not made", q, m)
	put(t, "not made", q, m, "a")
	take(t, "not made", q, m)
}

// TestEachShortList: all lists of up to 6 calls, on small queues.
func TestEachShortList(t *testing.T) {
	calls := []string{"+a", "+b", "+", "-", "!"}
	var grow func(most int, l []string)
	grow = func(most int, l []string) {
		q, m := queue.New(most), modelled(most)
		for _, call := range l {
			switch call[0] {
			case '+':
				put(t, "short", q, m, call[1:])
			case '-':
				take(t, "short", q, m)
			default:
				emptied(t, "short", q, m)
			}
		}
		drained(t, "short", q, m)
		if t.Failed() {
			t.Fatalf("most %d: %q", most, l)
		}
		if len(l) < 6 {
			for _, call := range calls {
				grow(most, append(l[:len(l):len(l)], call))
			}
		}
	}
	for most := range 4 {
		grow(most, nil)
	}
}

// text gives a short text, often one that was there already.
func text(r *rand.Rand) string {
	return strings.Repeat(string(rune('a'+r.IntN(4))), r.IntN(4))
}

// TestAny: long lists of calls, now more that put, now more that take.
func TestAny(t *testing.T) {
	r := rand.New(rand.NewPCG(22, 1))
	for range 200 {
		most := r.IntN(12) - 1
		if r.IntN(4) == 0 {
			most = mosts[r.IntN(len(mosts))].most
		}
		q, m := queue.New(most), modelled(most)
		for range 20 {
			puts := 1 + r.IntN(9)
			for range 40 {
				switch {
				case r.IntN(150) == 0:
					emptied(t, "any", q, m)
				case r.IntN(10) < puts:
					put(t, "any", q, m, text(r))
				default:
					take(t, "any", q, m)
				}
			}
		}
		drained(t, "any", q, m)
		if t.Failed() {
			t.Fatalf("most %d", most)
		}
	}
}

// TestHandedIn (R4): what is handed in is not changed, and what becomes of it behind Put is not seen, be it taken or lost.
func TestHandedIn(t *testing.T) {
	q := queue.New(2)
	bytes := []byte("-abc--def--ghi-")
	for i, want := range []bool{true, true, false} {
		if got := q.Put(unsafe.String(&bytes[5*i+1], 3)); got != want {
			t.Errorf("Put %d is %t", i, got)
		}
	}
	if string(bytes) != "-abc--def--ghi-" {
		t.Errorf("what was handed in became %q", bytes)
	}
	clear(bytes)
	for _, want := range []string{"abc", "def"} {
		if s, ok := q.Take(); s != want || !ok {
			t.Errorf("Take is %q, %t, not %q", s, ok, want)
		}
	}
}

// TestHandedOut (R4): what is handed out shares no memory with what was handed in, nor with another answer, though all were one text.
func TestHandedOut(t *testing.T) {
	q := queue.New(4)
	in := strings.Clone("abcdef")
	for range 4 {
		q.Put(in)
	}
	at := map[*byte]int{unsafe.StringData(in): -1}
	var out []string
	for i := range 4 {
		s, _ := q.Take()
		if other, is := at[unsafe.StringData(s)]; is {
			t.Errorf("%d shares with %d", i, other)
		}
		at[unsafe.StringData(s)] = i
		out = append(out, s)
		q.Put("ghijkl")
	}
	clear(unsafe.Slice(unsafe.StringData(out[0]), 6))
	if in != "abcdef" || out[1] != in || out[2] != in || out[3] != in {
		t.Errorf("%q, %q", in, out)
	}
	q.Clear()
	q.Put("mnopqr")
	if out[1] != in || out[2] != in || out[3] != in {
		t.Errorf("once the queue was clear: %q", out)
	}
}

// TestAgain (R5): the same calls on another one give the same, whatever is asked between and whatever is done to others.
func TestAgain(t *testing.T) {
	r := rand.New(rand.NewPCG(22, 2))
	for range 100 {
		most := r.IntN(6)
		one, two, other := queue.New(most), queue.New(most), queue.New(most+1)
		for range 200 {
			other.Put(text(r))
			if r.IntN(3) == 0 {
				other.Take()
			}
			two.Len()
			two.Lost()
			call := []string{"+" + text(r), "+" + text(r), "-", "-", "+"}[r.IntN(5)]
			if r.IntN(40) == 0 {
				call = "!"
			}
			s, ok := did(one, call)
			u, is := did(two, call)
			if s != u || ok != is || one.Len() != two.Len() || one.Lost() != two.Lost() {
				t.Fatalf("most %d, %q: %q, %t, %d, %d and %q, %t, %d, %d", most, call, s, ok, one.Len(), one.Lost(), u, is, two.Len(), two.Lost())
			}
		}
	}
}

// TestSideBySide: two do not meet, and each keeps its own bound.
func TestSideBySide(t *testing.T) {
	one, ofOne := queue.New(2), modelled(2)
	two, ofTwo := queue.New(3), modelled(3)
	for i := range 60 {
		put(t, "one", one, ofOne, "one"+strconv.Itoa(i))
		check(t, "two", two, ofTwo)
		put(t, "two", two, ofTwo, "two"+strconv.Itoa(i))
		check(t, "one", one, ofOne)
		if i%3 == 0 {
			take(t, "one", one, ofOne)
			check(t, "two", two, ofTwo)
		}
		if i%4 == 0 {
			take(t, "two", two, ofTwo)
			check(t, "one", one, ofOne)
		}
		if i == 30 {
			emptied(t, "one", one, ofOne)
			check(t, "two", two, ofTwo)
		}
	}
	drained(t, "one", one, ofOne)
	check(t, "two", two, ofTwo)
	drained(t, "two", two, ofTwo)
}

// TestLimit: the limit is the one that the tests count by.
func TestLimit(t *testing.T) {
	if api.MaxCap != maxCap {
		t.Error("another limit")
	}
}
