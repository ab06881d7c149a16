package members_test

import (
	"math"
	"math/rand/v2"
	"slices"
	"testing"

	"bucketline/api"
	"bucketline/members"
)

// The document's limits, by number.
const (
	maxTick = 1 << 20
	maxNow  = 1 << 40
)

// nodes are some of every kind: those that are there, those around them, and such as would be one of them in fewer bits.
var nodes = []int{
	math.MinInt, math.MinInt + 1, math.MinInt + 7, -1 << 32, -1<<32 + 3, -256, -9, -8, -7, -2, -1, 0, 1, 2, 3, 4, 5, 6, 7, 8, 9, 10, 15, 16, 63, 64, 255, 256, 258,
	1 << 16, 1<<32 - 1, 1 << 32, 1<<32 + 2, 1<<62 + 1, math.MaxInt - 1, math.MaxInt,
}

// incs are incarnations of every kind.
var incs = []int{
	math.MinInt, math.MinInt + 1, -1 << 32, -1<<32 + 1, -1 << 31, -256, -2, -1, 0, 1, 2, 3, 127, 128, 255, 256, 1<<16 - 1, 1 << 16,
	1<<31 - 1, 1 << 31, 1<<32 - 1, 1 << 32, 1<<32 + 1, maxNow, maxNow + 1, 1 << 62, math.MaxInt - 1, math.MaxInt,
}

// times are of every kind: at the document's edges, around them, and such as would be another time in fewer bits.
var times = []int{
	math.MinInt, math.MinInt + 1, math.MinInt + 9, -maxNow - 1, -maxNow, -1 << 32, -1<<32 + 5, -maxTick - 1, -maxTick, -5, -2, -1, 0, 1, 2, 3, 4, 5, 6, 7, 8, 9, 10,
	maxTick - 1, maxTick, maxTick + 1, maxTick + 5, 1<<31 - 1, 1 << 31, 1<<32 - 1, 1 << 32, 1<<32 + 5,
	maxNow - maxTick - 2, maxNow - maxTick - 1, maxNow - maxTick, maxNow - maxTick + 1, maxNow - 4, maxNow - 3, maxNow - 2, maxNow - 1, maxNow,
	maxNow + 1, maxNow + 2, maxNow + 5, maxNow + maxTick, 1<<41 + 1, 1<<62 + 5, math.MaxInt - maxTick, math.MaxInt - 1, math.MaxInt,
}

// timeouts are of every kind.
var timeouts = []int{
	math.MinInt, math.MinInt + 1, -1 << 32, -1<<32 + 3, -maxTick, -4, -1, 0, 1, 2, 3, 7, 255, 256, 1 << 16, maxTick - 1, maxTick, maxTick + 1, maxTick + 3, 1<<31 - 1,
	1 << 31, 1 << 32, 1<<32 + 2, maxNow, maxNow + 1, 1 << 62, math.MaxInt - 1, math.MaxInt,
}

// word is one that was heard, and noted.
type word struct{ node, inc, now int }

// model is members, told by the chapter's words: all that was noted, in its order.
type model struct {
	timeout int
	log     []word
}

func modelled(timeout int) *model {
	switch {
	case timeout < 0:
		timeout = 0
	case timeout > maxTick:
		timeout = maxTick
	}
	return &model{timeout: timeout}
}

func (w *model) hear(node, inc, now int) bool {
	if node < 0 || node > 7 || inc < 0 || now < 0 || now > maxNow {
		return false
	}
	for _, x := range w.log {
		if x.node == node && inc < x.inc {
			return false
		}
	}
	w.log = append(w.log, word{node, inc, now})
	return true
}

// noted gives the last word of node, if there is one.
func (w *model) noted(node int) (word, bool) {
	for _, x := range slices.Backward(w.log) {
		if x.node == node {
			return x, true
		}
	}
	return word{}, false
}

func (w *model) alive(node, now int) bool {
	x, ok := w.noted(node)
	return ok && now >= 0 && now <= maxNow && now >= x.now && now <= x.now+w.timeout
}

func (w *model) all(now int) []int {
	var out []int
	for node := 0; node <= 7; node++ {
		if w.alive(node, now) {
			out = append(out, node)
		}
	}
	return out
}

func (w *model) inc(node int) int {
	if x, ok := w.noted(node); ok {
		return x.inc
	}
	return -1
}

// heard hears it in both, and holds them against each other.
func heard(t *testing.T, name string, m *members.Members, w *model, x word) bool {
	t.Helper()
	got, want := m.Hear(x.node, x.inc, x.now), w.hear(x.node, x.inc, x.now)
	if got != want {
		t.Errorf("%s: Hear(%d, %d, %d) is %t, not %t", name, x.node, x.inc, x.now, got, want)
	}
	return got
}

// check holds all that members tell at these times against their model.
func check(t *testing.T, name string, m *members.Members, w *model, at ...int) {
	t.Helper()
	for _, node := range nodes {
		if got, want := m.Inc(node), w.inc(node); got != want {
			t.Errorf("%s: Inc(%d) is %d, not %d", name, node, got, want)
		}
	}
	for _, now := range at {
		for _, node := range nodes {
			if got, want := m.Alive(node, now), w.alive(node, now); got != want {
				t.Errorf("%s: Alive(%d, %d) is %t, not %t", name, node, now, got, want)
			}
		}
		if got, want := m.All(now), w.all(now); !slices.Equal(got, want) {
			t.Errorf("%s: All(%d) is %d, not %d", name, now, got, want)
		}
	}
}

// around gives the times at which a word of now may begin or cease to count, by this timeout.
func around(now, timeout int) []int {
	return []int{now - 1, now, now + 1, now + timeout - 1, now + timeout, now + timeout + 1}
}

// filled gives members and their model, with these words noted.
func filled(t *testing.T, timeout int, l ...word) (*members.Members, *model) {
	t.Helper()
	m, w := members.New(timeout), modelled(timeout)
	for _, x := range l {
		if !heard(t, "filled", m, w, x) {
			t.Fatalf("%+v is refused", x)
		}
	}
	return m, w
}

// TestExample is the chapter's.
func TestExample(t *testing.T) {
	m := members.New(3)
	if !m.Hear(2, 0, 5) {
		t.Fatal("it is not heard")
	}
	for now, want := range []bool{false, false, false, false, false, true, true, true, true, false, false} {
		if got := m.Alive(2, now); got != want {
			t.Errorf("Alive at %d is %t", now, got)
		}
		if got := len(m.All(now)) == 1; got != want {
			t.Errorf("All at %d is %d", now, m.All(now))
		}
	}
}

// TestSteps are words one behind the other, and what is told at 10, by hand.
func TestSteps(t *testing.T) {
	m := members.New(3)
	for i, c := range []struct {
		node, inc, now int
		ok             bool
		all            []int // at 10
		of2, of5       int   // incarnations
	}{
		{2, 1, 5, true, nil, 1, -1},
		{2, 0, 9, false, nil, 1, -1},
		{2, 1, 9, true, []int{2}, 1, -1},
		{5, 7, 10, true, []int{2, 5}, 1, 7},
		{2, 3, 8, true, []int{2, 5}, 3, 7},
		{2, 3, 6, true, []int{5}, 3, 7},
		{2, 2, 10, false, []int{5}, 3, 7},
		{2, 3, 7, true, []int{2, 5}, 3, 7},
		{8, 0, 10, false, []int{2, 5}, 3, 7},
		{-1, 0, 10, false, []int{2, 5}, 3, 7},
		{0, -1, 10, false, []int{2, 5}, 3, 7},
		{0, 0, -1, false, []int{2, 5}, 3, 7},
		{0, 0, maxNow + 1, false, []int{2, 5}, 3, 7},
		{0, 0, maxNow, true, []int{2, 5}, 3, 7},
		{5, 8, 11, true, []int{2}, 3, 8},
		{0, 0, 10, true, []int{0, 2}, 3, 8},
	} {
		if got := m.Hear(c.node, c.inc, c.now); got != c.ok {
			t.Errorf("%d: Hear is %t", i, got)
		}
		if got := m.All(10); !slices.Equal(got, c.all) {
			t.Errorf("%d: All is %d, not %d", i, got, c.all)
		}
		if m.Inc(2) != c.of2 || m.Inc(5) != c.of5 {
			t.Errorf("%d: Inc is %d and %d, not %d and %d", i, m.Inc(2), m.Inc(5), c.of2, c.of5)
		}
	}
}

// TestTimeouts (New): a timeout beyond its bounds is as these.
func TestTimeouts(t *testing.T) {
	for _, c := range []struct{ timeout, as int }{
		{math.MinInt, 0}, {math.MinInt + 1, 0}, {-1 << 32, 0}, {-1<<32 + 3, 0}, {-maxTick, 0}, {-4, 0}, {-1, 0}, {0, 0}, {1, 1}, {3, 3}, {256, 256}, {1 << 16, 1 << 16},
		{maxTick - 1, maxTick - 1}, {maxTick, maxTick}, {maxTick + 1, maxTick}, {maxTick + 3, maxTick}, {1<<31 - 1, maxTick}, {1 << 32, maxTick}, {1<<32 + 2, maxTick},
		{maxNow, maxTick}, {maxNow + 1, maxTick}, {1 << 62, maxTick}, {math.MaxInt - 1, maxTick}, {math.MaxInt, maxTick},
	} {
		for _, at := range []int{0, 1, 7, maxTick, maxNow / 2, maxNow - maxTick - 1} {
			m := members.New(c.timeout)
			m.Hear(4, 0, at)
			for _, x := range []struct {
				now  int
				want bool
			}{{at - 1, false}, {at, true}, {at + c.as, true}, {at + c.as + 1, false}, {maxNow, at == maxNow-c.as}} {
				if got := m.Alive(4, x.now); got != x.want {
					t.Errorf("timeout %d, heard at %d: Alive at %d is %t", c.timeout, at, x.now, got)
				}
				if got := slices.Contains(m.All(x.now), 4); got != x.want {
					t.Errorf("timeout %d, heard at %d: All at %d is %d", c.timeout, at, x.now, m.All(x.now))
				}
			}
		}
	}
}

// TestNew: nobody was heard at first, at whatever timeout.
func TestNew(t *testing.T) {
	for _, timeout := range timeouts {
		m := members.New(timeout)
		if m == nil {
			t.Fatalf("timeout %d: nil", timeout)
		}
		check(t, "new", m, modelled(timeout), times...)
		if len(m.All(0)) != 0 || m.Inc(0) != -1 || m.Alive(0, 0) {
			t.Errorf("timeout %d: somebody was heard", timeout)
		}
	}
}

// TestHear: of each kind of node, incarnation and time, a first word is taken just within their bounds.
func TestHear(t *testing.T) {
	for _, node := range nodes {
		for _, inc := range incs {
			for _, now := range times {
				m, w := members.New(3), modelled(3)
				got := heard(t, "first", m, w, word{node, inc, now})
				if want := node >= 0 && node <= 7 && inc >= 0 && now >= 0 && now <= maxNow; got != want {
					t.Errorf("Hear(%d, %d, %d) is %t", node, inc, now, got)
				}
				if got && (m.Inc(node) != inc || !m.Alive(node, now)) || m.Inc(node^1) != -1 {
					t.Errorf("behind Hear(%d, %d, %d): %d, %t, %d", node, inc, now, m.Inc(node), m.Alive(node, now), m.Inc(node^1))
				}
				if !got && (len(m.All(now)) != 0 || m.Inc(node) != -1) {
					t.Errorf("behind Hear(%d, %d, %d): %d, %d", node, inc, now, m.All(now), m.Inc(node))
				}
			}
		}
	}
}

// TestEdges are the bounds of Hear, by hand.
func TestEdges(t *testing.T) {
	for _, c := range []struct {
		node, inc, now int
		want           bool
	}{
		{-1, 0, 0, false}, {0, 0, 0, true}, {7, 0, 0, true}, {8, 0, 0, false}, {math.MinInt, 0, 0, false}, {math.MaxInt, 0, 0, false},
		{3, -1, 0, false}, {3, math.MinInt, 0, false}, {3, 1, 0, true}, {3, math.MaxInt, 0, true},
		{3, 0, -1, false}, {3, 0, math.MinInt, false}, {3, 0, maxNow - 1, true}, {3, 0, maxNow, true}, {3, 0, maxNow + 1, false}, {3, 0, math.MaxInt, false},
		{-1, -1, -1, false}, {8, -1, maxNow + 1, false}, {7, math.MaxInt, maxNow, true},
	} {
		m := members.New(0)
		if got := m.Hear(c.node, c.inc, c.now); got != c.want {
			t.Errorf("Hear(%d, %d, %d) is %t", c.node, c.inc, c.now, got)
		}
		if got := m.Alive(c.node, c.now); got != c.want {
			t.Errorf("behind Hear(%d, %d, %d), Alive is %t", c.node, c.inc, c.now, got)
		}
	}
}

// TestIncs: of two words of a node, the second is taken just if its incarnation is not less; then it is the one that is noted.
func TestIncs(t *testing.T) {
	for _, first := range incs {
		for _, second := range incs {
			m, w := members.New(3), modelled(3)
			heard(t, "first", m, w, word{6, first, 100})
			got := heard(t, "second", m, w, word{6, second, 200})
			if want := second >= 0 && second >= first; got != want {
				t.Errorf("%d behind %d is %t", second, first, got)
			}
			check(t, "incs", m, w, 99, 100, 103, 104, 199, 200, 203, 204)
		}
	}
}

// TestGreatest: an incarnation that was passed stays gone, whatever came since.
func TestGreatest(t *testing.T) {
	m, w := filled(t, 3, word{1, 2, 10}, word{1, 2, 11}, word{1, 9, 12}, word{1, 9, 5})
	for inc := range 9 {
		if heard(t, "gone", m, w, word{1, inc, 13}) || m.Inc(1) != 9 {
			t.Errorf("%d is heard again", inc)
		}
		check(t, "gone", m, w, 4, 5, 8, 9, 12, 13, 16)
	}
	for _, inc := range []int{9, 9, 10, math.MaxInt - 1, math.MaxInt, math.MaxInt} {
		if !heard(t, "not gone", m, w, word{1, inc, 13}) || m.Inc(1) != inc {
			t.Errorf("%d is not heard", inc)
		}
	}
	for _, inc := range []int{math.MaxInt - 1, 0, -1, math.MinInt} {
		if m.Hear(1, inc, 13) || m.Inc(1) != math.MaxInt {
			t.Errorf("%d is heard behind the greatest", inc)
		}
	}
}

// TestEarlier: a time that is less than the one ahead is noted, too, in the same incarnation and in a greater one.
func TestEarlier(t *testing.T) {
	for _, inc := range []int{4, 5} {
		for _, now := range []int{0, 1, 50, 95, 98, 99, 100} {
			m, w := filled(t, 3, word{0, 4, 100})
			if !heard(t, "earlier", m, w, word{0, inc, now}) || !m.Alive(0, now) || !m.Alive(0, now+3) || m.Alive(0, now+4) {
				t.Errorf("%d behind 100 is not noted", now)
			}
			check(t, "earlier", m, w, append(around(now, 3), around(100, 3)...)...)
		}
	}
	m, _ := filled(t, maxTick, word{7, 0, maxNow})
	if !m.Hear(7, 0, 0) || !m.Alive(7, maxTick) || m.Alive(7, maxNow) {
		t.Error("0 behind the greatest is not noted")
	}
}

// TestRefused: what is refused changes nothing, for none of the nodes.
func TestRefused(t *testing.T) {
	for _, timeout := range []int{0, 3, maxTick} {
		var l []word
		for node := range 8 {
			if node != 5 {
				l = append(l, word{node, 3 + node, 20 * node})
			}
		}
		m, w := filled(t, timeout, l...)
		var at []int
		for _, x := range l {
			at = append(at, around(x.now, timeout)...)
		}
		for _, x := range []word{
			{-1, 50, 21}, {8, 50, 21}, {math.MinInt, 50, 21}, {math.MaxInt, 50, 21}, {1<<32 + 2, 50, 21}, {258, 50, 21}, {-6, 50, 21},
			{2, 4, 21}, {2, 0, 21}, {2, -1, 21}, {2, math.MinInt, 21}, {5, -1, 21}, {5, math.MinInt, 21},
			{2, 5, -1}, {2, 50, -1}, {2, 50, math.MinInt}, {2, 50, maxNow + 1}, {2, 50, math.MaxInt}, {5, 0, -1}, {5, 0, maxNow + 1},
			{0, 2, 0}, {7, 9, 140}, {-1, -1, -1}, {8, -1, maxNow + 1},
		} {
			if heard(t, "refused", m, w, x) {
				t.Errorf("%+v is heard", x)
			}
			check(t, "refused", m, w, at...)
		}
	}
}

// TestRefusedInc: an incarnation that was refused for its time is not the greatest that was heard.
func TestRefusedInc(t *testing.T) {
	for _, now := range []int{-1, maxNow + 1, math.MinInt, math.MaxInt} {
		m, w := filled(t, 3, word{2, 1, 10})
		if heard(t, "refused", m, w, word{2, 9, now}) || heard(t, "refused", m, w, word{3, 9, now}) {
			t.Errorf("at %d it is heard", now)
		}
		if !heard(t, "behind", m, w, word{2, 1, 11}) || !heard(t, "behind", m, w, word{3, 0, 11}) {
			t.Errorf("at %d a refused one counts", now)
		}
		check(t, "behind", m, w, around(11, 3)...)
	}
}

// TestApart: what is heard of one node does not touch another.
func TestApart(t *testing.T) {
	for one := range 8 {
		for two := range 8 {
			if one == two {
				continue
			}
			m, w := filled(t, 3, word{one, 40, 100})
			check(t, "one", m, w, 100)
			if !heard(t, "two", m, w, word{two, 0, 50}) || m.Inc(one) != 40 || m.Inc(two) != 0 || !m.Alive(one, 100) || m.Alive(two, 100) || m.Alive(one, 50) || !m.Alive(two, 50) {
				t.Errorf("%d and %d meet", one, two)
			}
			heard(t, "one", m, w, word{one, 39, 50})
			heard(t, "one", m, w, word{one, 41, 200})
			check(t, "both", m, w, append(append(around(50, 3), around(100, 3)...), around(200, 3)...)...)
		}
	}
}

// TestAlive: at each kind of time, of words at each, by each kind of timeout.
func TestAlive(t *testing.T) {
	for _, timeout := range timeouts {
		for _, at := range times {
			if at < 0 || at > maxNow {
				continue
			}
			m, w := filled(t, timeout, word{3, 0, at})
			for _, now := range append(around(at, w.timeout), times...) {
				want := now >= 0 && now <= maxNow && now >= at && now <= at+w.timeout
				if got := m.Alive(3, now); got != want {
					t.Errorf("timeout %d, heard at %d: Alive at %d is %t", timeout, at, now, got)
				}
				if got := slices.Equal(m.All(now), []int{3}); got != want {
					t.Errorf("timeout %d, heard at %d: All at %d is %d", timeout, at, now, m.All(now))
				}
				if m.Alive(2, now) || m.Alive(4, now) || m.Alive(-3, now) || m.Alive(11, now) {
					t.Errorf("another is alive at %d", now)
				}
			}
		}
	}
}

// TestLate is where the timeout reaches up to the greatest time and beyond it, by hand.
func TestLate(t *testing.T) {
	for _, c := range []struct {
		timeout, at, now int
		want             bool
	}{
		{3, maxNow - 4, maxNow - 5, false}, {3, maxNow - 4, maxNow - 4, true}, {3, maxNow - 4, maxNow - 1, true}, {3, maxNow - 4, maxNow, false},
		{3, maxNow - 3, maxNow, true}, {3, maxNow - 3, maxNow + 1, false},
		{3, maxNow - 1, maxNow, true}, {3, maxNow - 1, maxNow + 1, false}, {3, maxNow - 1, maxNow + 2, false},
		{3, maxNow, maxNow - 1, false}, {3, maxNow, maxNow, true}, {3, maxNow, maxNow + 1, false}, {3, maxNow, math.MaxInt, false}, {3, maxNow, math.MinInt, false},
		{0, maxNow, maxNow, true}, {0, maxNow - 1, maxNow, false},
		{maxTick, maxNow - maxTick, maxNow, true}, {maxTick, maxNow - maxTick - 1, maxNow, false}, {maxTick, maxNow - maxTick + 1, maxNow + 1, false},
		{maxTick, maxNow, maxNow + maxTick, false}, {math.MaxInt, maxNow, maxNow, true}, {math.MaxInt, maxNow - maxTick - 1, maxNow, false}, {math.MaxInt, 0, maxNow, false},
		{maxTick, 0, -1, false}, {maxTick, 0, 0, true}, {maxTick, 0, maxTick, true}, {maxTick, 0, maxTick + 1, false}, {maxTick, 0, math.MinInt, false}, {maxTick, 0, math.MaxInt, false},
		{maxTick, 9, math.MinInt, false}, {maxTick, 9, math.MinInt + 8, false}, {maxTick, 9, math.MinInt + 9, false},
	} {
		m, _ := filled(t, c.timeout, word{6, 2, c.at})
		if got := m.Alive(6, c.now); got != c.want {
			t.Errorf("timeout %d, heard at %d: Alive at %d is %t", c.timeout, c.at, c.now, got)
		}
		if got := len(m.All(c.now)) != 0; got != c.want {
			t.Errorf("timeout %d, heard at %d: All at %d is %d", c.timeout, c.at, c.now, m.All(c.now))
		}
	}
}

// TestZero: the least incarnation at the least time is heard, and is not as never.
func TestZero(t *testing.T) {
	for node := range 8 {
		m := members.New(0)
		if m.Alive(node, 0) || m.Inc(node) != -1 {
			t.Errorf("%d was never heard", node)
		}
		if !m.Hear(node, 0, 0) || !m.Alive(node, 0) || m.Inc(node) != 0 || !slices.Equal(m.All(0), []int{node}) || m.Alive(node, 1) || m.Alive(node, -1) {
			t.Errorf("%d: %d, %d", node, m.Inc(node), m.All(0))
		}
	}
}

// TestAll: just those that are alive, rising, in whatever order they were heard; each choice of the eight.
func TestAll(t *testing.T) {
	r := rand.New(rand.NewPCG(20, 1))
	for choice := range 256 {
		m, w := members.New(3), modelled(3)
		var want, late []int
		for node := range 8 {
			if choice>>node&1 == 1 {
				want = append(want, node)
			} else {
				late = append(late, node)
			}
		}
		for _, node := range r.Perm(8) {
			now := 100
			if choice>>node&1 == 0 {
				now = 104
			}
			heard(t, "all", m, w, word{node, r.IntN(5), now})
		}
		if got := m.All(103); !slices.Equal(got, want) {
			t.Errorf("All is %d, not %d", got, want)
		}
		if got := m.All(104); !slices.Equal(got, late) {
			t.Errorf("All is %d, not %d", got, late)
		}
		check(t, "all", m, w, 99, 100, 103, 104, 107, 108)
	}
}

// TestAllNone: none are told of nobody, by a time that is none, and once all are gone.
func TestAllNone(t *testing.T) {
	m := members.New(3)
	if len(m.All(0)) != 0 {
		t.Error("somebody was heard")
	}
	for node := range 8 {
		m.Hear(node, 0, 0)
	}
	for _, now := range []int{-1, 4, maxNow, maxNow + 1, math.MinInt, math.MaxInt} {
		if got := m.All(now); len(got) != 0 {
			t.Errorf("All(%d) is %d", now, got)
		}
	}
	if got := m.All(3); !slices.Equal(got, []int{0, 1, 2, 3, 4, 5, 6, 7}) {
		t.Errorf("All is %d", got)
	}
}

// TestInc: what is noted, also of one who is not alive any more, and -1 of others.
func TestInc(t *testing.T) {
	m := members.New(0)
	for node := range 8 {
		for _, inc := range []int{0, 1, 1, 7, 1 << 32, math.MaxInt} {
			if !m.Hear(node, inc, 5) || m.Inc(node) != inc || m.Alive(node, 6) {
				t.Errorf("%d: Inc is %d, not %d", node, m.Inc(node), inc)
			}
		}
		if node < 7 && m.Inc(node+1) != -1 {
			t.Errorf("%d was never heard", node+1)
		}
	}
	for _, node := range []int{-1, 8, -8, 15, 256, 1 << 32, math.MinInt, math.MaxInt} {
		if m.Inc(node) != -1 || m.Alive(node, 5) {
			t.Errorf("Inc(%d) is %d", node, m.Inc(node))
		}
	}
}

// TestNil: members that are none.
func TestNil(t *testing.T) {
	var m *members.Members
	for range 2 {
		for _, node := range nodes {
			if m.Inc(node) != -1 {
				t.Errorf("Inc(%d) is %d", node, m.Inc(node))
			}
			for _, now := range times {
				if m.Hear(node, 0, now) || m.Alive(node, now) {
					t.Errorf("%d at %d", node, now)
				}
			}
		}
		for _, now := range times {
			if got := m.All(now); len(got) != 0 {
				t.Errorf("All(%d) is %d", now, got)
			}
		}
	}
}

// TestEachShortList: all lists of up to 4 words of two nodes, of few incarnations and times.
func TestEachShortList(t *testing.T) {
	var words []word
	for _, node := range []int{0, 7} {
		for _, inc := range []int{0, 1} {
			for _, now := range []int{0, 2, 3} {
				words = append(words, word{node, inc, now})
			}
		}
	}
	var grow func(l []word)
	grow = func(l []word) {
		m, w := members.New(1), modelled(1)
		for _, x := range l {
			heard(t, "short", m, w, x)
		}
		for now := -1; now <= 5; now++ {
			if !slices.Equal(m.All(now), w.all(now)) {
				t.Fatalf("%+v: All(%d) is %d, not %d", l, now, m.All(now), w.all(now))
			}
		}
		if m.Inc(0) != w.inc(0) || m.Inc(7) != w.inc(7) {
			t.Fatalf("%+v: Inc is %d and %d", l, m.Inc(0), m.Inc(7))
		}
		if len(l) < 4 {
			for _, x := range words {
				grow(append(slices.Clone(l), x))
			}
		}
	}
	grow(nil)
}

// drawn gives a word that is mostly one that may be.
func drawn(r *rand.Rand, base int) word {
	x := word{r.IntN(8), r.IntN(6), base + r.IntN(12)}
	switch r.IntN(12) {
	case 0:
		x.node = nodes[r.IntN(len(nodes))]
	case 1:
		x.inc = incs[r.IntN(len(incs))]
	case 2:
		x.now = times[r.IntN(len(times))]
	}
	return x
}

// TestAny: long lists of words, of which all is told as the chapter has it.
func TestAny(t *testing.T) {
	r := rand.New(rand.NewPCG(20, 2))
	for range 300 {
		timeout := r.IntN(6)
		if r.IntN(3) == 0 {
			timeout = timeouts[r.IntN(len(timeouts))]
		}
		base := []int{0, 1000, 1<<31 - 6, 1<<32 - 6, maxNow - 10, maxNow - 6}[r.IntN(6)]
		m, w := members.New(timeout), modelled(timeout)
		for range 60 {
			x := drawn(r, base)
			heard(t, "any", m, w, x)
			check(t, "any", m, w, x.now, base+r.IntN(20), times[r.IntN(len(times))])
		}
		if t.Failed() {
			t.FailNow()
		}
	}
}

// TestAsked: to ask changes nothing, whatever is asked, at whatever time, in whatever order.
func TestAsked(t *testing.T) {
	m, w := filled(t, 3, word{1, 2, 10}, word{4, 0, 12}, word{7, 9, 11})
	for _, now := range append(slices.Clone(times), 12, 99, 12) {
		m.All(now)
		for _, node := range nodes {
			m.Alive(node, now)
			m.Inc(node)
		}
		if got := m.All(12); !slices.Equal(got, []int{1, 4, 7}) {
			t.Errorf("once asked at %d, All is %d", now, got)
		}
	}
	check(t, "asked", m, w, 9, 10, 11, 12, 13, 14, 15, 16)
}

// TestHandedOut (R4): what All gave is the asker's; no two answers lie in the same memory.
func TestHandedOut(t *testing.T) {
	m, w := members.New(3), modelled(3)
	for node := range 8 {
		heard(t, "out", m, w, word{node, node, 10})
		one, two := m.All(10), m.All(10)
		want := slices.Clone(two)
		whole := one[:cap(one)]
		for i := range whole {
			whole[i] = -5
		}
		one = append(one, 99, 98)
		if !slices.Equal(two, want) || !slices.Equal(m.All(10), want) || len(want) != node+1 {
			t.Errorf("%d and %d, not %d", two, m.All(10), want)
		}
		check(t, "spoilt", m, w, 9, 10, 13, 14)
		heard(t, "out", m, w, word{node, node, 11})
		heard(t, "out", m, w, word{node, node, 10})
		if !slices.Equal(two, want) || one[0] != -5 {
			t.Errorf("an answer was changed: %d, %d", one, two)
		}
	}
}

// TestAgain (R5): the same calls on others give the same, whatever is asked between and whatever other members hear.
func TestAgain(t *testing.T) {
	r := rand.New(rand.NewPCG(20, 3))
	for range 200 {
		timeout, base := r.IntN(8), r.IntN(100)
		one, two, other := members.New(timeout), members.New(timeout), members.New(timeout+1)
		for range 80 {
			y := drawn(r, base)
			other.Hear(y.node, y.inc+1, y.now)
			two.All(y.now)
			two.Alive(y.node, y.now)
			x := drawn(r, base)
			if a, b := one.Hear(x.node, x.inc, x.now), two.Hear(x.node, x.inc, x.now); a != b {
				t.Fatalf("Hear of %+v is %t and %t", x, a, b)
			}
			for now := base; now < base+20; now++ {
				if a, b := one.All(now), two.All(now); !slices.Equal(a, b) {
					t.Fatalf("All(%d) is %d and %d", now, a, b)
				}
			}
			if one.Inc(x.node) != two.Inc(x.node) || one.Alive(y.node, y.now) != two.Alive(y.node, y.now) {
				t.Fatalf("%+v and %+v", x, y)
			}
		}
	}
}

// TestSideBySide: what one hears is not another's, and each keeps its own timeout.
func TestSideBySide(t *testing.T) {
	one, ofOne := members.New(3), modelled(3)
	two, ofTwo := members.New(5), modelled(5)
	for node := range 8 {
		heard(t, "one", one, ofOne, word{node, 4, 10})
		check(t, "two", two, ofTwo, 9, 10, 13, 14, 15, 16, 20)
		if node%2 == 0 {
			heard(t, "two", two, ofTwo, word{node, 2, 11})
		}
		check(t, "one", one, ofOne, 9, 10, 11, 13, 14, 16, 17)
		check(t, "two", two, ofTwo, 9, 10, 11, 13, 14, 16, 17)
	}
	if one.Inc(0) != 4 || two.Inc(0) != 2 || two.Inc(1) != -1 || len(one.All(13)) != 8 || len(one.All(14)) != 0 || !slices.Equal(two.All(16), []int{0, 2, 4, 6}) {
		t.Errorf("%d, %d, %d", one.All(13), one.All(14), two.All(16))
	}
}

// The limits are those that the tests count by.
func TestLimits(t *testing.T) {
	if api.MaxNodes != 8 || api.MaxTick != maxTick || api.MaxNow != maxNow {
		t.Error("other limits")
	}
}
