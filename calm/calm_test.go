package calm_test

import (
	"cmp"
	"encoding/binary"
	"fmt"
	"hash/crc32"
	"math"
	"math/big"
	"math/rand/v2"
	"slices"
	"strings"
	"sync"
	"testing"
	"unsafe"

	"bucketline/api"
	"bucketline/calm"
	"bucketline/net"
	"bucketline/play"
)

// The document's limits, by number.
const (
	maxK     = 128
	maxNodes = 8
	maxWay   = 512
)

// The kinds of events, by number.
const (
	tick    = 1
	act     = 2
	deliver = 3
	lose    = 4
	double  = 5
	alter   = 6
	crash   = 7
)

// The kinds of nodes, by number.
const (
	source = 1
	relay  = 2
	sink   = 3
)

func node(kind int, to ...int) api.Node {
	return api.Node{Kind: kind, To: to}
}

// config gives these nodes, and an object of two blocks.
func config(nodes ...api.Node) api.Config {
	return api.Config{Nodes: nodes, Object: "ab", Size: 1, Buffer: 128, Queue: 1, Cache: 4, Rate: 1, Timeout: 5, Target: 1}
}

// line gives a source, so many relays and a sink, each of which sends to the next, and an object of so many blocks of one byte, no two alike.
func line(relays, blocks int) api.Config {
	nodes := []api.Node{node(source, 1)}
	for i := range relays {
		nodes = append(nodes, node(relay, i+2))
	}
	c := config(append(nodes, node(sink))...)
	c.Object = text(blocks)
	return c
}

// text gives n bytes, no two of which, up to 256, are alike.
func text(n int) string {
	b := make([]byte, n)
	for i := range b {
		b[i] = byte(7*i + 'a')
	}
	return string(b)
}

// odd are numbers at the ends of what an int may be, and such as are others once they are cut to fewer bits.
var odd = []int{
	math.MinInt, math.MinInt + 1, -1 << 62, -1 << 40, -1 << 32, -1<<32 + 1, -1 << 31, -1<<16 + 1, -257, -256, -255, -3, -2, -1,
	1<<8 + 1, 1<<16 + 1, 1 << 31, 1<<31 - 1, 1 << 32, 1<<32 + 1, 1<<32 + 3, 1 << 40, 1 << 62, math.MaxInt - 1, math.MaxInt,
}

// modulo is 0 or more, by numbers of any size.
func modulo(n, m int) int {
	return int(new(big.Int).Mod(big.NewInt(int64(n)), big.NewInt(int64(m))).Int64())
}

// round gives a round's events by the chapter's words: i is the round, k the number of blocks, path the source and what acts behind it.
func round(i, k int, path ...int) []api.Event {
	var out []api.Event
	for place, id := range path {
		draws := []uint64{uint64(i)}
		if place == 0 {
			draws = []uint64{0, uint64(i % k)}
		}
		out = append(out,
			api.Event{Kind: tick, N: 1000},
			api.Event{Kind: act, Node: id, Draws: draws},
			api.Event{Kind: deliver}, api.Event{Kind: deliver}, api.Event{Kind: deliver}, api.Event{Kind: deliver},
			api.Event{Kind: deliver}, api.Event{Kind: deliver}, api.Event{Kind: deliver}, api.Event{Kind: deliver},
		)
	}
	return out
}

// rounds gives the events of so many rounds.
func rounds(n, k int, path ...int) []api.Event {
	var out []api.Event
	for i := range n {
		out = append(out, round(i, k, path...)...)
	}
	return out
}

// sameEvents tells whether all fields are the same; a list of no draws is no other than none.
func sameEvents(a, b []api.Event) bool {
	return slices.EqualFunc(a, b, func(x, y api.Event) bool {
		return x.Kind == y.Kind && x.Node == y.Node && x.N == y.N && x.At == y.At && x.By == y.By && slices.Equal(x.Draws, y.Draws)
	})
}

// pathed fails, unless Path answers so.
func pathed(t *testing.T, name string, c api.Config, from, to int, want ...int) {
	t.Helper()
	if got := calm.Path(c, from, to); !slices.Equal(got, want) {
		t.Errorf("%s: the path from %d to %d is %d, not %d", name, from, to, got, want)
	}
}

// scripted fails, unless Script answers so.
func scripted(t *testing.T, name string, c api.Config, n int, want []api.Event) {
	t.Helper()
	if got := calm.Script(c, n); !sameEvents(got, want) {
		t.Errorf("%s: the script of %d rounds has %d events, %.300v, not %d, %.300v", name, n, len(got), got, len(want), want)
	}
}

// counted fails, unless Rounds answers so.
func counted(t *testing.T, name string, c api.Config, want int) {
	t.Helper()
	if got := calm.Rounds(c); got != want {
		t.Errorf("%s: Rounds are %d, not %d", name, got, want)
	}
}

// drawn fails, unless Draws answers so.
func drawn(t *testing.T, k, i int, want ...uint64) {
	t.Helper()
	if got := calm.Draws(k, i); !slices.Equal(got, want) {
		t.Errorf("Draws(%d, %d) are %d, not %d", k, i, got, want)
	}
}

// reports gives all nodes' reports behind a script of a config that is a network.
func reports(t *testing.T, c api.Config, l []api.Event) []api.Report {
	t.Helper()
	out, err := play.Play(c, l)
	if len(out) != len(c.Nodes) || err != api.OK {
		t.Fatalf("Play is %v, %d", out, err)
	}
	return out
}

// TestLimits: the limits and kinds are those that the tests count by.
func TestLimits(t *testing.T) {
	if api.MaxK != maxK || api.MaxNodes != maxNodes || api.MaxWay != maxWay || api.NodeSource != source || api.NodeRelay != relay || api.NodeSink != sink {
		t.Error("another limit")
	}
	kinds := []int{api.EventTick, api.EventAct, api.EventDeliver, api.EventLose, api.EventDouble, api.EventAlter, api.EventCrash}
	if !slices.Equal(kinds, []int{tick, act, deliver, lose, double, alter, crash}) {
		t.Error("another kind")
	}
}

// TestExample is the chapter's: of a source and a sink, 2 blocks: 2 rounds of 10 events.
func TestExample(t *testing.T) {
	c := config(node(source, 1), node(sink))
	counted(t, "the example", c, 2)
	pathed(t, "the example", c, 0, 1, 0, 1)
	want := []api.Event{
		{Kind: 1, N: 1000}, {Kind: 2, Node: 0, Draws: []uint64{0, 0}}, {Kind: 3}, {Kind: 3}, {Kind: 3}, {Kind: 3}, {Kind: 3}, {Kind: 3}, {Kind: 3}, {Kind: 3},
		{Kind: 1, N: 1000}, {Kind: 2, Node: 0, Draws: []uint64{0, 1}}, {Kind: 3}, {Kind: 3}, {Kind: 3}, {Kind: 3}, {Kind: 3}, {Kind: 3}, {Kind: 3}, {Kind: 3},
	}
	scripted(t, "the example", c, 2, want)
	if got := reports(t, c, calm.Script(c, 2))[1]; got != (api.Report{Kept: 2, Rank: 2, Known: 1, Done: true, Object: "ab"}) {
		t.Errorf("the sink tells %v", got)
	}
}

// TestDraws: by hand, and by numbers of any size.
func TestDraws(t *testing.T) {
	drawn(t, 1, 0, 0, 0)
	drawn(t, 1, 5, 0, 0)
	drawn(t, 1, -5, 0, 0)
	drawn(t, 2, 1, 0, 1)
	drawn(t, 2, 2, 0, 0)
	drawn(t, 3, 0, 0, 0)
	drawn(t, 3, 2, 0, 2)
	drawn(t, 3, 3, 0, 0)
	drawn(t, 3, 4, 0, 1)
	drawn(t, 3, -1, 0, 2)
	drawn(t, 3, -2, 0, 1)
	drawn(t, 3, -3, 0, 0)
	drawn(t, 3, -4, 0, 2)
	drawn(t, 3, math.MaxInt, 0, 1) // 2^63 is 2 modulo 3
	drawn(t, 3, math.MinInt, 0, 1)
	drawn(t, 127, math.MinInt, 0, 126) // 2^63 is 1 modulo 127
	drawn(t, 128, 127, 0, 127)
	drawn(t, 128, 128, 0, 0)
	drawn(t, 128, -1, 0, 127)
	drawn(t, 128, math.MaxInt, 0, 127)
	drawn(t, 128, math.MinInt, 0, 0)
	for k := 1; k <= maxK; k++ {
		for i := -300; i <= 300; i++ {
			drawn(t, k, i, 0, uint64(modulo(i, k)))
		}
		for _, i := range odd {
			drawn(t, k, i, 0, uint64(modulo(i, k)))
		}
	}
}

// TestDrawsOfNone: of a number of blocks that no object has.
func TestDrawsOfNone(t *testing.T) {
	for _, k := range slices.Concat(odd, []int{0, -4, -127, -128, -129, 129, 130, 255, 256, 1 << 20}) {
		for _, i := range slices.Concat(odd, []int{0, 1, 2, 127, 128, k, k - 1}) {
			drawn(t, k, i)
		}
	}
}

// TestRounds: by hand, and every length by every size.
func TestRounds(t *testing.T) {
	for _, x := range []struct{ length, size, want int }{
		{0, 1, 1}, {0, 64, 1}, {1, 1, 1}, {1, 2, 1}, {2, 2, 1}, {3, 2, 2}, {4, 2, 2}, {5, 2, 3}, {63, 64, 1}, {64, 64, 1}, {65, 64, 2}, {127, 1, 127}, {128, 1, 128},
		{254, 2, 127}, {255, 2, 128}, {256, 2, 128}, {8127, 64, 127}, {8128, 64, 127}, {8129, 64, 128}, {8192, 64, 128},
		{129, 1, 0}, {257, 2, 0}, {8193, 64, 0}, {1 << 20, 64, 0}, {0, 0, 0}, {0, 65, 0}, {5, -1, 0}, {5, 65, 0}, {5, math.MinInt, 0}, {5, math.MaxInt, 0}, {5, 1<<32 + 1, 0}, {129, 0, 0},
	} {
		c := config(node(source, 1), node(sink))
		c.Object, c.Size = strings.Repeat("x", x.length), x.size
		counted(t, fmt.Sprintf("%d bytes by %d", x.length, x.size), c, x.want)
	}
	whole := strings.Repeat("x", 64*maxK+2)
	c := config(node(source))
	for size := 1; size <= 64; size++ {
		c.Size = size
		for n, k := 0, 1; n <= size*maxK+2; n++ {
			if n > k*size {
				k++
			}
			c.Object = whole[:n]
			if k > maxK {
				counted(t, fmt.Sprintf("%d bytes by %d", n, size), c, 0)
			} else {
				counted(t, fmt.Sprintf("%d bytes by %d", n, size), c, k)
			}
		}
	}
}

// TestRoundsOfAny: Rounds hang on the object alone, whatever the nodes are and the others of its bounds.
func TestRoundsOfAny(t *testing.T) {
	r := rand.New(rand.NewPCG(28, 1))
	for range 2000 {
		c := anyConfig(r)
		counted(t, fmt.Sprint(c), c, max(1, (len(c.Object)+c.Size-1)/c.Size))
	}
}

// base is a config with two paths, and what is told of it.
func base() api.Config {
	return config(node(source, 2, 1), node(relay, 3), node(relay, 4, 0, 3, 1), node(sink, 2), node(sink))
}

// refused fails, unless all calls answer nothing.
func refused(t *testing.T, name string, c api.Config) {
	t.Helper()
	if net.Check(c) == api.OK {
		t.Fatalf("%s: it is a network", name)
	}
	counted(t, name, c, 0)
	for _, n := range []int{math.MinInt, -1, 0, 1, 2, 5, maxK, maxK + 1, math.MaxInt} {
		scripted(t, name, c, n, nil)
	}
	for from := -2; from < 10; from++ {
		for to := -2; to < 10; to++ {
			pathed(t, name, c, from, to)
		}
	}
}

// wrongs gives each reason for Check to refuse base, but the object's.
func wrongs() map[string]func(*api.Config) {
	out := map[string]func(*api.Config){
		"no node":            func(c *api.Config) { c.Nodes = nil },
		"nodes of no length": func(c *api.Config) { c.Nodes = []api.Node{} },
		"nine nodes":         func(c *api.Config) { c.Nodes = append(c.Nodes, slices.Repeat([]api.Node{{Kind: 2}}, 4)...) },
		"a thousand nodes":   func(c *api.Config) { c.Nodes = append(c.Nodes, slices.Repeat([]api.Node{{Kind: 3}}, 995)...) },
		"kind 0":             func(c *api.Config) { c.Nodes[4].Kind = 0 },
		"kind 4":             func(c *api.Config) { c.Nodes[4].Kind = 4 },
		"kind -1":            func(c *api.Config) { c.Nodes[1].Kind = -1 },
		"kind 2^32 + 2":      func(c *api.Config) { c.Nodes[1].Kind = 1<<32 + 2 },
		"no source":          func(c *api.Config) { c.Nodes[0].Kind = 2 },
		"two sources":        func(c *api.Config) { c.Nodes[4].Kind = 1 },
		"five sources":       func(c *api.Config) { c.Nodes = slices.Repeat([]api.Node{{Kind: 1}}, 5) },
		"To itself":          func(c *api.Config) { c.Nodes[4].To = []int{4} },
		"To none":            func(c *api.Config) { c.Nodes[4].To = []int{5} },
		"To -1":              func(c *api.Config) { c.Nodes[0].To = []int{1, -1} },
		"To 2^32":            func(c *api.Config) { c.Nodes[1].To = []int{3, 1 << 32} },
		"To one twice":       func(c *api.Config) { c.Nodes[4].To = []int{1, 2, 1} },
		"nothing at all":     func(c *api.Config) { *c = api.Config{Object: c.Object, Size: c.Size} },
	}
	for name, x := range map[string]struct {
		set         func(c *api.Config, x int)
		least, most int
	}{
		"Spread":  {func(c *api.Config, x int) { c.Spread = x }, 0, 128},
		"Buffer":  {func(c *api.Config, x int) { c.Buffer = x }, 1, 256},
		"Queue":   {func(c *api.Config, x int) { c.Queue = x }, 1, 256},
		"Cache":   {func(c *api.Config, x int) { c.Cache = x }, 0, 256},
		"Timeout": {func(c *api.Config, x int) { c.Timeout = x }, 0, 1048576},
		"Target":  {func(c *api.Config, x int) { c.Target = x }, 1, 128},
	} {
		for _, n := range []int{math.MinInt, -1 << 32, x.least - 1, x.most + 1, 1<<32 + 1, math.MaxInt} {
			out[fmt.Sprintf("%s %d", name, n)] = func(c *api.Config) { x.set(c, n) }
		}
	}
	return out
}

// TestRefused: for each reason that Check has, and each of Plan's, all calls answer nothing; the config without it is one of which they tell.
func TestRefused(t *testing.T) {
	refused(t, "nothing", api.Config{})
	for name, wrong := range wrongs() {
		c := base()
		counted(t, name+" set right", c, 2)
		pathed(t, name+" set right", c, 0, 4, 0, 2, 4)
		scripted(t, name+" set right", c, 3, rounds(3, 2, 0, 1))
		wrong(&c)
		refused(t, name, c)
		c.Object = text(129)
		refused(t, name+", too many blocks", c)
	}
	for _, x := range []struct{ length, size int }{{129, 1}, {257, 2}, {8193, 64}, {1 << 20, 64}, {0, 0}, {0, 65}, {8, -1}, {8, 1<<32 + 1}, {8, math.MinInt}, {8, math.MaxInt}, {129, 0}} {
		c := base()
		c.Object, c.Size = strings.Repeat("x", x.length), x.size
		refused(t, fmt.Sprintf("%d bytes by %d", x.length, x.size), c)
	}
}

// TestRefusedMany: a config of very many nodes is refused at once.
func TestRefusedMany(t *testing.T) {
	c := config(slices.Repeat([]api.Node{node(source, 1), node(relay), node(sink, 0)}, 1<<18)...)
	refused(t, "many nodes", c)
	c = config(node(source, slices.Repeat([]int{1}, 1<<20)...), node(sink))
	refused(t, "many to", c)
}

// TestTaken: configs at the edges of what Check takes.
func TestTaken(t *testing.T) {
	least := base()
	least.Object, least.Spread, least.Buffer, least.Queue, least.Cache, least.Timeout, least.Target, least.Rate = "", 0, 1, 1, 0, 0, 1, 0
	most := base()
	most.Object, most.Size, most.Spread, most.Buffer, most.Queue, most.Cache, most.Timeout, most.Target, most.Rate = strings.Repeat("x", 8192), 64, 128, 256, 256, 256, 1048576, 128, 1000
	for _, x := range []struct {
		c api.Config
		k int
	}{{least, 1}, {most, 128}} {
		for _, rate := range []float64{x.c.Rate, 0.5, -1, math.NaN(), math.Inf(1), math.Inf(-1), math.Copysign(0, -1)} {
			x.c.Rate = rate
			name := fmt.Sprintf("%d blocks, rate %v", x.k, rate)
			counted(t, name, x.c, x.k)
			pathed(t, name, x.c, 1, 4, 1, 3, 2, 4)
			scripted(t, name, x.c, 2, rounds(2, x.k, 0, 1))
		}
	}
}

// TestPath: by hand.
func TestPath(t *testing.T) {
	all := []int{0, 1, 2, 3, 4, 5, 6, 7}
	without := func(l []int, x ...int) []int {
		return slices.DeleteFunc(slices.Clone(l), func(id int) bool { return slices.Contains(x, id) })
	}
	chain := config(node(relay, 1), node(relay, 2), node(source, 3), node(sink, 4), node(relay, 5), node(sink, 6), node(relay, 7), node(sink))
	back := config(node(sink), node(relay, 0), node(relay, 1), node(relay, 2), node(sink, 3), node(relay, 4), node(relay, 5), node(source, 6))
	ring := config(node(source, 1), node(relay, 2), node(relay, 3), node(sink, 0))
	full := config()
	for _, id := range all {
		full.Nodes = append(full.Nodes, node(relay, without(all, id)...))
	}
	full.Nodes[3].Kind = source
	wide := config(node(source, 6, 4, 2, 3, 5, 1), node(relay, 7), node(relay, 7), node(relay, 7), node(relay, 7), node(relay, 7), node(relay, 7), node(sink))
	late := config(node(source, 7), node(sink), node(relay, 1), node(relay, 1), node(relay, 1), node(relay, 1), node(relay, 1), node(relay, 5, 3, 6, 2, 4))
	long := config(node(source, 2, 1), node(relay, 3), node(relay, 5), node(relay, 4), node(relay, 5), node(sink))
	hill := config(node(source, 2, 1), node(relay, 5), node(relay, 3), node(relay, 6), node(sink), node(relay, 6, 4), node(relay, 4))
	for _, x := range []struct {
		name     string
		c        api.Config
		from, to int
		want     []int
	}{
		{"one step", chain, 0, 1, []int{0, 1}},
		{"one step from the source", chain, 2, 3, []int{2, 3}},
		{"two steps, through the source", chain, 1, 3, []int{1, 2, 3}},
		{"through sinks", chain, 2, 7, []int{2, 3, 4, 5, 6, 7}},
		{"as many as there are", chain, 0, 7, all},
		{"against it", chain, 7, 0, nil},
		{"one step against it", chain, 4, 3, nil},
		{"as many as there are, falling", back, 7, 0, []int{7, 6, 5, 4, 3, 2, 1, 0}},
		{"rising where all fall", back, 0, 7, nil},
		{"round", ring, 0, 3, []int{0, 1, 2, 3}},
		{"on round", ring, 2, 1, []int{2, 3, 0, 1}},
		{"on round, one step", ring, 3, 0, []int{3, 0}},
		{"round to itself", ring, 1, 1, []int{1}},
		{"all to all", full, 7, 0, []int{7, 0}},
		{"all to all, to itself", full, 5, 5, []int{5}},
		{"the least of several", wide, 0, 7, []int{0, 1, 7}},
		{"the least of several, later", late, 0, 1, []int{0, 7, 2, 1}},
		{"not the least next, but the shortest", long, 0, 5, []int{0, 2, 5}},
		{"not the least last, but the least next", hill, 0, 6, []int{0, 1, 5, 6}},
		{"not of two steps more", hill, 0, 4, []int{0, 1, 5, 4}},
		{"alone", config(node(source)), 0, 0, []int{0}},
		{"to itself, that nobody sends to", wide, 0, 0, []int{0}},
		{"to itself, that sends to none", wide, 7, 7, []int{7}},
		{"nobody sends to it", wide, 7, 0, nil},
		{"beside each other", wide, 1, 2, nil},
	} {
		pathed(t, x.name, x.c, x.from, x.to, x.want...)
		for id := range x.c.Nodes {
			slices.Reverse(x.c.Nodes[id].To)
		}
		pathed(t, x.name+", To the other way round", x.c, x.from, x.to, x.want...)
	}
}

// TestPathOfNone: of nodes that are none, also where from and to are the same.
func TestPathOfNone(t *testing.T) {
	for n := 1; n <= maxNodes; n++ {
		c := config(node(source))
		for len(c.Nodes) < n {
			c.Nodes = append(c.Nodes, node(relay, 0))
		}
		for _, wrong := range slices.Concat(odd, []int{-8, -9, n, n + 1, 9, 10, 64}) {
			if wrong >= 0 && wrong < n {
				continue
			}
			pathed(t, "none", c, wrong, wrong)
			for id := range n {
				pathed(t, "from none", c, wrong, id)
				pathed(t, "to none", c, id, wrong)
			}
			for _, other := range odd {
				pathed(t, "both", c, wrong, other)
			}
		}
	}
}

// least gives the path by the chapter's words: of all ways, tried one step after the other, the shortest, and of these the one with the least next node.
func least(c api.Config, from, to int) []int {
	ways := [][]int{{from}}
	for range c.Nodes {
		var best []int
		var longer [][]int
		for _, way := range ways {
			end := way[len(way)-1]
			if end == to && (best == nil || slices.Compare(way, best) < 0) {
				best = way
			}
			for _, next := range c.Nodes[end].To {
				if !slices.Contains(way, next) {
					longer = append(longer, append(slices.Clone(way), next))
				}
			}
		}
		if best != nil {
			return best
		}
		ways = longer
	}
	return nil
}

// every holds all paths of a config against the model, and gives how many there are.
func every(t *testing.T, c api.Config) int {
	t.Helper()
	paths := 0
	for from := range c.Nodes {
		for to := range c.Nodes {
			want := least(c, from, to)
			pathed(t, fmt.Sprint(c.Nodes), c, from, to, want...)
			paths += min(len(want), 1)
		}
	}
	return paths
}

// TestEveryPath: all networks of up to four nodes, To rising and falling.
func TestEveryPath(t *testing.T) {
	for n := 1; n <= 4; n++ {
		for bits := range 1 << (n * (n - 1)) {
			c := config(slices.Repeat([]api.Node{node(sink)}, n)...)
			c.Nodes[bits%n].Kind = source
			for from := range n {
				for to := range n {
					if from == to {
						continue
					}
					if bits&1 != 0 {
						c.Nodes[from].To = append(c.Nodes[from].To, to)
					}
					bits >>= 1
				}
			}
			every(t, c)
			for id := range n {
				slices.Reverse(c.Nodes[id].To)
			}
			every(t, c)
			if t.Failed() {
				return
			}
		}
	}
}

// TestAnyPath: networks of up to eight nodes, from few Tos to all.
func TestAnyPath(t *testing.T) {
	r := rand.New(rand.NewPCG(28, 2))
	var paths, long int
	for range 1500 {
		c := anyConfig(r)
		paths += every(t, c)
		for from := range c.Nodes {
			for to := range c.Nodes {
				if len(calm.Path(c, from, to)) > 4 {
					long++
				}
			}
		}
		if t.Failed() {
			return
		}
	}
	if paths < 10000 || long < 200 {
		t.Errorf("%d paths, %d long ones", paths, long)
	}
}

// TestScript: by hand.
func TestScript(t *testing.T) {
	for _, x := range []struct {
		name string
		path []int // the source, and what acts behind it
		c    api.Config
	}{
		{"to the sink", []int{0}, config(node(source, 1), node(sink))},
		{"through a relay", []int{0, 1}, config(node(source, 1), node(relay, 2), node(sink, 1))},
		{"through relays", []int{0, 1, 2, 3, 4, 5, 6}, line(6, 2)},
		{"the source last", []int{3, 0, 2}, config(node(relay, 2), node(sink), node(relay, 1), node(source, 0))},
		{"two sinks", []int{0, 1}, config(node(source, 3, 1), node(relay, 2), node(sink), node(sink))},
		{"the nearer sink is a later one", []int{0, 2, 4}, config(node(source, 3, 2), node(sink), node(relay, 4), node(sink), node(relay, 1))},
		{"to the first sink there is no way", []int{0}, config(node(source, 2), node(sink, 2), node(sink))},
		{"to two sinks there is no way", []int{1, 2}, config(node(sink, 1), node(source, 2), node(relay, 5), node(sink), node(relay, 3), node(sink))},
		{"a sink on the way to the first", []int{0, 2}, config(node(source, 2), node(sink), node(sink, 1))},
		{"a sink on the way to the last", []int{0}, config(node(source, 1), node(sink, 2), node(sink))},
		{"sinks on the way to the first", []int{3, 2, 1}, config(node(sink), node(sink, 0), node(sink, 1), node(source, 2))},
		{"a shorter way past a sink", []int{0, 3}, config(node(source, 4, 3), node(sink), node(relay, 1), node(relay, 1), node(sink, 2))},
		{"the least of several", []int{0, 2}, config(node(source, 3, 2), node(sink), node(relay, 1), node(relay, 1))},
		{"back too", []int{0, 1, 2}, config(node(source, 1), node(relay, 0, 2), node(relay, 1, 0, 3), node(sink, 2, 1, 0))},
		{"others beside it", []int{0, 4}, config(node(source, 1, 4, 3, 5), node(relay, 0, 3), node(sink), node(relay, 1), node(relay, 2, 1), node(relay, 4))},
		{"no sink", nil, config(node(source, 1), node(relay, 0))},
		{"a source alone", nil, config(node(source))},
		{"no way to a sink", nil, config(node(source, 2), node(sink, 0), node(relay, 0), node(sink, 1))},
		{"a source that sends to none", nil, config(node(source), node(sink, 0))},
		{"nobody sends to the sink", nil, config(node(sink, 1, 2), node(source, 2), node(relay, 1))},
	} {
		for _, blocks := range []int{1, 2, 3, 7} {
			x.c.Object = text(blocks)
			for _, n := range []int{0, 1, 2, 3, 4, 5, 9, 20, 127, 128} {
				want := rounds(n, blocks, x.path...)
				scripted(t, fmt.Sprintf("%s, %d blocks", x.name, blocks), x.c, n, want)
				if len(want) != 10*n*len(x.path) {
					t.Fatalf("%d events", len(want))
				}
			}
		}
	}
}

// TestScriptRounds: rounds beyond what there may be are as these.
func TestScriptRounds(t *testing.T) {
	for _, blocks := range []int{1, 2, 127, 128} {
		for _, c := range []api.Config{line(0, blocks), line(1, blocks)} {
			path := []int{0, 1}[:len(c.Nodes)-1]
			for _, n := range slices.Concat(odd, []int{-129, -128, -127}) {
				if n < 0 {
					scripted(t, "below", c, n, nil)
				}
			}
			for n := range maxK + 1 {
				scripted(t, fmt.Sprint(blocks, " blocks"), c, n, rounds(n, blocks, path...))
			}
			for _, n := range slices.Concat(odd, []int{129, 130, 255, 256, 1000}) {
				if n > maxK {
					scripted(t, fmt.Sprint(blocks, " blocks, beyond"), c, n, rounds(maxK, blocks, path...))
				}
			}
		}
	}
}

// TestAnyScript: of networks as chance has them, by the paths that the model finds.
func TestAnyScript(t *testing.T) {
	r := rand.New(rand.NewPCG(28, 3))
	var none, later, through int
	for range 3000 {
		c := anyConfig(r)
		from := slices.IndexFunc(c.Nodes, func(x api.Node) bool { return x.Kind == source })
		var path []int
		sinks := 0
		for id, x := range c.Nodes {
			if x.Kind == sink && path == nil {
				sinks++
				path = least(c, from, id)
			}
		}
		switch {
		case path == nil:
			none++
		case sinks > 1:
			later++
		}
		if path != nil {
			path = path[:len(path)-1]
		}
		for _, id := range path {
			if c.Nodes[id].Kind == sink {
				through++
			}
		}
		n := []int{r.IntN(140) - 5, r.IntN(5), anyNumber(r)}[r.IntN(3)]
		want := rounds(min(max(n, 0), maxK), max(1, (len(c.Object)+c.Size-1)/c.Size), path...)
		scripted(t, fmt.Sprint(c), c, n, want)
		if t.Failed() {
			return
		}
	}
	if none < 200 || later < 100 || through < 100 {
		t.Errorf("%d without a path, %d not to the first sink, %d through a sink", none, later, through)
	}
}

// calmed fails, unless behind each number of rounds the last node, a sink, has just as much as it should.
func calmed(t *testing.T, name string, c api.Config, numbers ...int) {
	t.Helper()
	end := len(c.Nodes) - 1
	k := calm.Rounds(c)
	for _, n := range numbers {
		want := api.Report{Kept: min(n, k), Rank: min(n, k), Known: min(n, 1)}
		if n >= k {
			want.Done, want.Object = true, c.Object
		}
		if got := reports(t, c, calm.Script(c, n))[end]; got != want {
			t.Errorf("%s, %d of %d rounds: the sink tells %v, not %v", name, n, k, got, want)
		}
	}
}

// TestCalm (28.2, T6): along lines of no relay, of one and of several, behind as many rounds as there are blocks the sink is Done, and not behind fewer.
func TestCalm(t *testing.T) {
	for relays := range maxNodes - 1 {
		for blocks := 1; blocks <= 12; blocks++ {
			c := line(relays, blocks)
			for n := range blocks + 3 {
				calmed(t, fmt.Sprintf("%d relays", relays), c, n)
			}
		}
	}
}

// TestCalmTargets (28.2): whatever the relays aim at.
func TestCalmTargets(t *testing.T) {
	for target := 1; target <= 128; target++ {
		for _, relays := range []int{1, 2, 6} {
			for _, blocks := range []int{1, 2, 7, 13} {
				c := line(relays, blocks)
				c.Target = target
				calmed(t, fmt.Sprintf("%d relays, target %d", relays, target), c, blocks-1, blocks)
			}
		}
	}
}

// TestCalmMany (28.2): objects of many blocks, as many as there may be among them.
func TestCalmMany(t *testing.T) {
	for _, blocks := range []int{31, 63, 64, 65, 127, 128} {
		for _, relays := range []int{0, 1, 3} {
			for _, target := range []int{1, 2, 3, 64, 128} {
				if relays == 0 && target > 1 || relays == 3 && blocks > 65 && target > 2 {
					continue
				}
				c := line(relays, blocks)
				c.Target = target
				calmed(t, fmt.Sprintf("%d relays, target %d", relays, target), c, blocks-1, blocks)
			}
		}
	}
}

// TestCalmObjects (28.2): objects of each length by several sizes, no byte and one byte more than the blocks among them, alike and unlike.
func TestCalmObjects(t *testing.T) {
	for _, size := range []int{1, 2, 3, 8, 63, 64} {
		for n := range 4*size + 2 {
			if n > 20 && n%size > 1 && n%size < size-1 {
				continue
			}
			for _, object := range []string{text(n), strings.Repeat("\x00", n), strings.Repeat("x", n)} {
				c := line(2, 1)
				c.Object, c.Size, c.Target = object, size, 2
				k := calm.Rounds(c)
				calmed(t, fmt.Sprintf("%q by %d", object, size), c, k-1, k, k+1)
			}
		}
	}
}

// TestCalmBounds (28.2): whatever else the nodes are bound by, as long as they take all.
func TestCalmBounds(t *testing.T) {
	for name, change := range map[string]func(*api.Config){
		"a buffer just for it": func(c *api.Config) { c.Buffer = 9 },
		"a great buffer":       func(c *api.Config) { c.Buffer = 256 },
		"a great queue":        func(c *api.Config) { c.Queue = 256 },
		"no cache":             func(c *api.Config) { c.Cache = 0 },
		"a cache of one":       func(c *api.Config) { c.Cache = 1 },
		"a great cache":        func(c *api.Config) { c.Cache = 256 },
		"the least rate":       func(c *api.Config) { c.Rate = 0.001 },
		"an infinite rate":     func(c *api.Config) { c.Rate = math.Inf(1) },
		"no rate, all tokens":  func(c *api.Config) { c.Rate, c.Queue = math.NaN(), 9 },
		"no timeout":           func(c *api.Config) { c.Timeout = 0 },
		"a long timeout":       func(c *api.Config) { c.Timeout = 1 << 20 },
		"a spread of one":      func(c *api.Config) { c.Spread = 1 },
		"a spread of some":     func(c *api.Config) { c.Spread = 4 },
		"a spread of all":      func(c *api.Config) { c.Spread = 128 },
	} {
		for relays := range 4 {
			for _, target := range []int{1, 3, 9} {
				c := line(relays, 9)
				c.Target = target
				change(&c)
				calmed(t, fmt.Sprintf("%s, %d relays, target %d", name, relays, target), c, 8, 9)
			}
		}
	}
}

// TestCalmAmong (28.2): the path is one among other nodes, its nodes in any order, and they send to others too: the nodes of the path alone act.
func TestCalmAmong(t *testing.T) {
	r := rand.New(rand.NewPCG(28, 4))
	for range 400 {
		n := 2 + r.IntN(7)
		order := r.Perm(n)
		on := order[:2+r.IntN(n-1)] // the source, relays, the sink
		c := config(slices.Repeat([]api.Node{node(relay)}, n)...)
		c.Object, c.Target, c.Cache, c.Queue = text(1+r.IntN(10)), 1+r.IntN(12), r.IntN(6), 1+r.IntN(4)
		c.Nodes[on[0]].Kind, c.Nodes[on[len(on)-1]].Kind = source, sink
		for id := range c.Nodes {
			place := slices.Index(order, id)
			for to := range c.Nodes {
				at := slices.Index(order, to)
				next := place+1 == at && at < len(on)
				// To others beside the path, and back along it; none of them leads on.
				aside := at >= len(on) && place < len(on)
				back := at < place && place < len(on)
				if next || (aside || back) && r.IntN(2) == 0 {
					c.Nodes[id].To = append(c.Nodes[id].To, to)
				}
			}
			r.Shuffle(len(c.Nodes[id].To), func(i, j int) {
				l := c.Nodes[id].To
				l[i], l[j] = l[j], l[i]
			})
		}
		end := on[len(on)-1]
		pathed(t, fmt.Sprint(c.Nodes), c, on[0], end, on...)
		k := calm.Rounds(c)
		for _, n := range []int{k - 1, k} {
			got := reports(t, c, calm.Script(c, n))[end]
			if got.Rank != n || got.Kept != n || got.Done != (n == k) || got.Object != c.Object[:n/k*len(c.Object)] {
				t.Fatalf("%v: behind %d of %d rounds the sink tells %v", c, n, k, got)
			}
		}
		if len(play.Flights(c, calm.Script(c, k))) != 0 {
			t.Fatalf("%v: frames are under way", c)
		}
	}
}

// twins gives an object of two blocks whose packets have one fingerprint: what their rows make unlike in the sum, the second block makes alike again.
func twins() string {
	head := func(row byte) uint32 {
		return ^crc32.ChecksumIEEE([]byte{0, 0, 0, 0, 0, 0, 0, 8, 2, 4, 0, 0, 0, 0, 0, 0, 0, 0, row})
	}
	b := []byte("twinTWIN")
	binary.LittleEndian.PutUint32(b[4:], binary.LittleEndian.Uint32(b)^head(1)^head(2))
	return string(b)
}

// TestNotCalm: where nodes do not take all, the sink has no more than came and was kept.
func TestNotCalm(t *testing.T) {
	of := func(c api.Config, change func(*api.Config)) api.Config {
		change(&c)
		return c
	}
	past := config(node(sink), node(source, 2), node(sink, 0))
	for _, x := range []struct {
		name string
		c    api.Config
		id   int
		want api.Report
	}{
		{"a buffer of one less", of(line(0, 9), func(c *api.Config) { c.Buffer = 8 }), 1, api.Report{Kept: 8, Rank: 8, Known: 1}},
		{"no rate, a queue of 3", of(line(0, 9), func(c *api.Config) { c.Rate, c.Queue = 0, 3 }), 1, api.Report{Kept: 3, Rank: 3}},
		{"a rate below the least", of(line(0, 9), func(c *api.Config) { c.Rate, c.Queue = 0.0009999, 5 }), 1, api.Report{Kept: 5, Rank: 5}},
		{"a sink on the way, the first", past, 0, api.Report{Known: 1}},
		{"a sink on the way, itself", past, 2, api.Report{Kept: 2, Rank: 2, Done: true, Object: "ab"}},
		{"one fingerprint", of(line(0, 2), func(c *api.Config) { c.Object, c.Size = twins(), 4 }), 1, api.Report{Kept: 1, Rank: 1, Known: 1}},
		{"one fingerprint, a relay", of(line(1, 2), func(c *api.Config) { c.Object, c.Size = twins(), 4 }), 2, api.Report{Kept: 1, Rank: 1, Known: 1}},
		{"one fingerprint, no cache", of(line(0, 2), func(c *api.Config) { c.Object, c.Size, c.Cache = twins(), 4, 0 }), 1, api.Report{Kept: 2, Rank: 2, Known: 1, Done: true, Object: twins()}},
	} {
		if got := reports(t, x.c, calm.Script(x.c, maxK))[x.id]; got != x.want {
			t.Errorf("%s: the sink tells %v, not %v", x.name, got, x.want)
		}
	}
}

// TestCalmOrders (T6): the blocks in any order, and draws that are not the chapter's, as long as they are new each time.
func TestCalmOrders(t *testing.T) {
	r := rand.New(rand.NewPCG(28, 5))
	for range 300 {
		relays, blocks := r.IntN(5), 1+r.IntN(12)
		c := line(relays, blocks)
		c.Target, c.Spread = 1+r.IntN(14), r.IntN(6)
		order := r.Perm(blocks)
		l := calm.Script(c, blocks)
		i := 0
		for at, e := range l {
			if e.Kind == act && e.Node == 0 {
				// A draw that is so many times the number of blocks more chooses the same.
				l[at].Draws = []uint64{0, uint64(order[i] + blocks*r.IntN(1000)), r.Uint64()}
				i++
			}
		}
		got := reports(t, c, l)[relays+1]
		if i != blocks || got.Rank != blocks || !got.Done || got.Object != c.Object {
			t.Fatalf("%d relays, target %d, blocks %d: the sink tells %v", relays, c.Target, order, got)
		}
	}
}

// anyConfig gives a config that is a network.
func anyConfig(r *rand.Rand) api.Config {
	n := 1 + r.IntN(8)
	c := api.Config{
		Nodes: make([]api.Node, n), Object: text(r.IntN(14)), Size: 1 + r.IntN(3), Spread: r.IntN(6), Buffer: 1 + r.IntN(16), Queue: 1 + r.IntN(5),
		Cache: r.IntN(6), Rate: 2 * r.Float64(), Timeout: r.IntN(8), Target: 1 + r.IntN(4),
	}
	many := 1 + r.IntN(n)
	for i := range c.Nodes {
		c.Nodes[i].Kind = relay + r.IntN(2)
		for _, to := range r.Perm(n)[:r.IntN(many+1)] {
			if to != i {
				c.Nodes[i].To = append(c.Nodes[i].To, to)
			}
		}
	}
	c.Nodes[r.IntN(n)].Kind = source
	return c
}

// anyNumber gives mostly a small one.
func anyNumber(r *rand.Rand) int {
	switch r.IntN(20) {
	case 0:
		return odd[r.IntN(len(odd))]
	case 1:
		return int(r.Uint64())
	}
	return r.IntN(40) - 8
}

// wild gives a config of any numbers.
func wild(r *rand.Rand) api.Config {
	c := anyConfig(r)
	for range r.IntN(3) {
		x := anyNumber(r)
		switch r.IntN(10) {
		case 0:
			c.Spread = x
		case 1:
			c.Buffer = x
		case 2:
			c.Queue = x
		case 3:
			c.Cache = x
		case 4:
			c.Timeout = x
		case 5:
			c.Target = x
		case 6:
			c.Size = x
		case 7:
			c.Nodes[r.IntN(len(c.Nodes))].Kind = x
		case 8:
			i := r.IntN(len(c.Nodes))
			c.Nodes[i].To = append(c.Nodes[i].To, x)
		case 9:
			c.Object, c.Rate = strings.Repeat("x", r.IntN(400)), math.Float64frombits(r.Uint64())
		}
	}
	return c
}

// TestTotal (R1, T7): whatever config and numbers: nothing panics, and of what Check refuses nothing is told; each script can be played.
func TestTotal(t *testing.T) {
	r := rand.New(rand.NewPCG(28, 6))
	var taken, wrong int
	for range 4000 {
		c := wild(r)
		n, from, to := anyNumber(r), anyNumber(r), anyNumber(r)
		if err := net.Check(c); err != api.OK {
			wrong++
			counted(t, fmt.Sprint(c), c, 0)
			pathed(t, fmt.Sprint(c), c, from, to)
			scripted(t, fmt.Sprint(c), c, n, nil)
			continue
		}
		taken++
		calm.Draws(n, from)
		if path := calm.Path(c, from, to); len(path) > len(c.Nodes) {
			t.Errorf("%v: the path from %d to %d is %d", c, from, to, path)
		}
		l := calm.Script(c, n)
		if got := reports(t, c, l); len(l)%10 != 0 || !play.Lossless(c, l) {
			t.Errorf("%v: %d events, %v", c, len(l), got)
		}
	}
	if taken < 1000 || wrong < 1000 {
		t.Errorf("%d are taken, %d are not", taken, wrong)
	}
}

// TestHandedIn (R4): no call changes what it is given, nor what lies behind its lists' ends, and what becomes of that changes nothing of what was told.
func TestHandedIn(t *testing.T) {
	c := base()
	object := []byte("-ab-")
	c.Object = unsafe.String(&object[1], 2)
	nodes := append(slices.Clone(c.Nodes), api.Node{Kind: 99, To: []int{98}})
	var tos [5][]int
	for id := range tos {
		tos[id] = append(slices.Clone(c.Nodes[id].To), 97)
		nodes[id].To = tos[id][:len(tos[id])-1]
	}
	c.Nodes = nodes[:5]
	k, path, alone, l := calm.Rounds(c), calm.Path(c, 0, 4), calm.Path(c, 3, 3), calm.Script(c, 3)
	for id, x := range base().Nodes {
		if !slices.Equal(tos[id], append(x.To, 97)) || nodes[id].Kind != x.Kind || len(nodes[id].To) != len(x.To) {
			t.Errorf("node %d, as it was handed in, became %v, %d", id, nodes[id], tos[id])
		}
	}
	if string(object) != "-ab-" || nodes[5].Kind != 99 || nodes[5].To[0] != 98 {
		t.Errorf("what was handed in became %q, %v", object, nodes)
	}
	for id := range tos {
		clear(tos[id])
	}
	clear(nodes)
	clear(object)
	if k != 2 || !slices.Equal(path, []int{0, 2, 4}) || !slices.Equal(alone, []int{3}) || !sameEvents(l, rounds(3, 2, 0, 1)) {
		t.Errorf("what was told became %d, %d, %d, %v", k, path, alone, l)
	}
}

// span gives where a list's memory begins and ends, what lies behind its end too.
func span[T any](l []T) [2]uintptr {
	begin := uintptr(unsafe.Pointer(unsafe.SliceData(l)))
	return [2]uintptr{begin, begin + uintptr(cap(l))*unsafe.Sizeof(*new(T))}
}

// apart fails, if two of these share memory; what has none shares none.
func apart(t *testing.T, l [][2]uintptr) {
	t.Helper()
	l = slices.DeleteFunc(l, func(x [2]uintptr) bool { return x[0] == x[1] })
	slices.SortFunc(l, func(x, y [2]uintptr) int { return cmp.Compare(x[0], y[0]) })
	for i := range l[1:] {
		if l[i][1] > l[i+1][0] {
			t.Fatalf("two lists share memory: %x, %x", l[i], l[i+1])
		}
	}
}

// TestHandedOut (R4): no two lists of an answer, nor of two, nor of what was handed in, share memory, and what becomes of one changes no other, nor what is told next.
func TestHandedOut(t *testing.T) {
	c := base()
	at := [][2]uintptr{span(c.Nodes)}
	for _, x := range c.Nodes {
		at = append(at, span(x.To))
	}
	scripts := [][]api.Event{calm.Script(c, 5), calm.Script(c, 5), calm.Script(c, 1), calm.Script(line(6, 2), 5)}
	for _, l := range scripts {
		at = append(at, span(l))
		for _, e := range l {
			at = append(at, span(e.Draws))
		}
	}
	var paths [][]int
	for range 2 {
		for from := range 5 {
			for to := range 5 {
				paths = append(paths, calm.Path(c, from, to))
				at = append(at, span(paths[len(paths)-1]))
			}
		}
	}
	draws := [][]uint64{calm.Draws(2, 1), calm.Draws(2, 1), calm.Draws(128, 0), calm.Draws(128, 0)}
	for _, l := range draws {
		at = append(at, span(l))
	}
	apart(t, at)
	for _, e := range scripts[0] {
		clear(e.Draws[:cap(e.Draws)])
	}
	clear(scripts[0][:cap(scripts[0])])
	for _, l := range paths[:25] {
		clear(l[:cap(l)])
	}
	clear(draws[0][:cap(draws[0])])
	draws[2][0], draws[2][1] = 9, 9
	if !sameEvents(scripts[1], rounds(5, 2, 0, 1)) || !sameEvents(scripts[2], rounds(1, 2, 0, 1)) || !sameEvents(scripts[3], rounds(5, 2, 0, 1, 2, 3, 4, 5, 6)) || !slices.Equal(draws[1], []uint64{0, 1}) || !slices.Equal(draws[3], []uint64{0, 0}) {
		t.Errorf("%v; %v; %v", scripts[1:], draws[1], draws[3])
	}
	for i, l := range paths[25:] {
		if !slices.Equal(l, least(base(), i/5, i%5)) {
			t.Errorf("from %d to %d: %d", i/5, i%5, l)
		}
	}
	scripted(t, "another was written over", c, 5, rounds(5, 2, 0, 1))
	pathed(t, "another was written over", c, 0, 4, 0, 2, 4)
	drawn(t, 2, 1, 0, 1)
	drawn(t, 128, 0, 0, 0)
	if n := every(t, c); n != 21 {
		t.Errorf("%d paths", n)
	}
}

// told is what the calls answer.
type told struct {
	k      int
	path   []int
	script []api.Event
	draws  []uint64
}

func tell(c api.Config, x [4]int) told {
	return told{calm.Rounds(c), calm.Path(c, x[0], x[1]), calm.Script(c, x[2]), calm.Draws(x[3], x[2])}
}

func (x told) same(y told) bool {
	return x.k == y.k && slices.Equal(x.path, y.path) && sameEvents(x.script, y.script) && slices.Equal(x.draws, y.draws)
}

// TestAgain (R5): the same call again gives the same, whatever was called between, and beside others.
func TestAgain(t *testing.T) {
	r := rand.New(rand.NewPCG(28, 7))
	var configs []api.Config
	var numbers [][4]int
	var want []told
	for range 80 {
		c := anyConfig(r)
		if r.IntN(8) == 0 {
			c = wild(r)
		}
		configs, numbers = append(configs, c), append(numbers, [4]int{r.IntN(8), r.IntN(8), anyNumber(r), anyNumber(r)})
	}
	for i, c := range configs {
		want = append(want, tell(c, numbers[i]))
	}
	var all sync.WaitGroup
	for from := range 4 {
		all.Go(func() {
			for i := range configs {
				i = (7*i + 13*from) % len(configs)
				if got := tell(configs[i], numbers[i]); !got.same(want[i]) {
					t.Errorf("config %d: %v, not %v", i, got, want[i])
				}
			}
		})
	}
	all.Wait()
	for i := len(configs) - 1; i >= 0; i-- {
		for range 2 {
			if got := tell(configs[i], numbers[i]); !got.same(want[i]) {
				t.Errorf("config %d: %v, not %v", i, got, want[i])
			}
		}
	}
}
