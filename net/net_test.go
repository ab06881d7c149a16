package net_test

import (
	"encoding/binary"
	"fmt"
	"hash/crc32"
	"math"
	"math/big"
	"math/rand/v2"
	"slices"
	"strings"
	"testing"
	"unsafe"

	"bucketline/api"
	"bucketline/frame"
	"bucketline/net"
	"bucketline/node"
	"bucketline/xor"
)

// The document's limits, by number.
const (
	maxK     = 128
	maxBlock = 64
	maxNodes = 8
	maxCap   = 256
	maxTick  = 1 << 20
	maxNow   = 1 << 40
	maxWay   = 512
)

// The kinds of events, by number.
const (
	tick    = 1
	act     = 2
	deliver = 3
	lose    = 4
	double  = 5
	alter   = 6
	crash   = 7
)

// The nodes of config.
const (
	source = 0
	near   = 1 // a relay
	hub    = 2 // a relay that sends to all others, not by rising numbers
	sink   = 3
	mute   = 4 // a sink that sends to none
	count  = 5
)

// config gives nodes of each kind, with To of none, of one, of some and of all others.
func config() api.Config {
	return api.Config{
		Nodes: []api.Node{
			{Kind: 1, To: []int{2, 1}},
			{Kind: 2, To: []int{3}},
			{Kind: 2, To: []int{4, 0, 3, 1}},
			{Kind: 3, To: []int{2}},
			{Kind: 3},
		},
		Object: "abcdefgh", Size: 1, Buffer: 8, Queue: 4, Cache: 4, Rate: 1, Timeout: 5, Target: 1,
	}
}

// with gives config, changed.
func with(change func(*api.Config)) api.Config {
	c := config()
	change(&c)
	return c
}

// odd are numbers at the ends of what an int may be, and such as are others once they are cut to fewer bits.
var odd = []int{
	math.MinInt, math.MinInt + 1, -1 << 62, -1 << 40, -1 << 32, -1<<32 + 1, -1<<32 + 3, -1 << 31, -1<<16 + 1, -256, -255, -254, -3, -2, -1,
	1<<8 + 1, 1<<16 + 1, 1 << 31, 1<<31 - 1, 1 << 32, 1<<32 + 1, 1<<32 + 2, 1<<32 + 3, 1 << 40, 1 << 62, math.MaxInt - 1, math.MaxInt,
}

// around gives all numbers from low to high, and the odd ones.
func around(low, high int) []int {
	out := slices.Clone(odd)
	for n := low; n <= high; n++ {
		out = append(out, n)
	}
	return out
}

// modulo is 0 or more, by numbers of any size.
func modulo(n, m int) int {
	return int(new(big.Int).Mod(big.NewInt(int64(n)), big.NewInt(int64(m))).Int64())
}

// sealed gives b and the library's sum of it.
func sealed(b []byte) string {
	return string(binary.BigEndian.AppendUint32(slices.Clone(b), crc32.ChecksumIEEE(b)))
}

// hello gives the bytes of a frame without a packet.
func hello(from, inc int) string {
	return sealed(binary.BigEndian.AppendUint32([]byte{1, byte(from)}, uint32(inc)))
}

// block gives the bytes of a frame with the packet of one of config's eight blocks, come by so many relays.
func block(from, inc, hops, i int) string {
	b := binary.BigEndian.AppendUint32([]byte{2, byte(from)}, uint32(inc))
	b = append(b, 0, 0, 0, 0, 0, 0, 0, 8, 8, 1, byte(hops))
	b = binary.BigEndian.AppendUint64(b, 1<<i)
	return sealed(append(b, "abcdefgh"[i]))
}

// flights gives one for each of to, all of the same bytes.
func flights(from int, text string, to ...int) []api.Flight {
	var out []api.Flight
	for _, x := range to {
		out = append(out, api.Flight{From: from, To: x, Bytes: text})
	}
	return out
}

// shown gives flights as a text that can be read.
func shown(l []api.Flight) string {
	var b strings.Builder
	for _, x := range l {
		fmt.Fprintf(&b, "[%d to %d: %q]", x.From, x.To, x.Bytes)
	}
	return fmt.Sprintf("%d, %.600s", len(l), b.String())
}

// model is a network, told by the chapter's words; its nodes are those of the layer below.
type model struct {
	nodes []*node.Node
	now   int
	way   []api.Flight
}

func modelled(c api.Config) *model {
	m := &model{}
	for id := range c.Nodes {
		m.nodes = append(m.nodes, node.New(c, id))
	}
	return m
}

func (m *model) add(l []api.Flight) {
	for _, x := range l {
		if len(m.way) < maxWay {
			m.way = append(m.way, x)
		}
	}
}

func (m *model) do(e api.Event) bool {
	switch e.Kind {
	case tick:
		k := e.N
		if k < 0 {
			k = 0
		}
		if k > maxTick {
			k = maxTick
		}
		m.now += k
		if m.now > maxNow {
			m.now = maxNow
		}
		for _, x := range m.nodes {
			x.Tick(k)
			m.add(x.Pump())
		}
		return true
	case act, crash:
		if e.Node < 0 || e.Node >= len(m.nodes) {
			return false
		}
		if e.Kind == crash {
			m.nodes[e.Node].Crash()
			return true
		}
		m.nodes[e.Node].Act(e.Draws, m.now)
		m.add(m.nodes[e.Node].Pump())
		return true
	case deliver, lose, double, alter:
		if len(m.way) == 0 {
			return false
		}
		m.doToFrame(e, modulo(e.N, len(m.way)))
		return true
	}
	return false
}

func (m *model) doToFrame(e api.Event, i int) {
	f := m.way[i]
	switch e.Kind {
	case deliver, lose:
		m.way = append(slices.Clone(m.way[:i]), m.way[i+1:]...)
		if e.Kind == deliver {
			m.nodes[f.To].Receive(f.Bytes, m.now)
		}
	case double:
		m.add([]api.Flight{f})
	case alter:
		b := []byte(f.Bytes)
		b[modulo(e.At, len(b))] ^= byte(modulo(e.By, 256))
		m.way[i].Bytes = string(b)
	}
}

func (m *model) report(id int) api.Report {
	if id < 0 || id >= len(m.nodes) {
		return api.Report{}
	}
	return m.nodes[id].Report(m.now)
}

// subject is a network and its model, to which the same is done.
type subject struct {
	t    *testing.T
	name string
	n    *net.Net
	m    *model
}

func begun(t *testing.T, name string, c api.Config) *subject {
	t.Helper()
	n, err := net.New(c)
	if n == nil || err != api.OK {
		t.Fatalf("%s: no network: %d", name, err)
	}
	s := &subject{t: t, name: name, n: n, m: modelled(c)}
	s.check()
	return s
}

// check holds what a network tells against the model; twice, as to ask changes nothing.
func (s *subject) check() {
	s.t.Helper()
	for range 2 {
		if got := s.n.Now(); got != s.m.now {
			s.t.Fatalf("%s: Now is %d, not %d", s.name, got, s.m.now)
		}
		if got := s.n.Flights(); !slices.Equal(got, s.m.way) {
			s.t.Fatalf("%s: Flights are %s, not %s", s.name, shown(got), shown(s.m.way))
		}
		for id := -2; id < len(s.m.nodes)+2; id++ {
			if got, want := s.n.Report(id), s.m.report(id); got != want {
				s.t.Fatalf("%s: Report(%d) is %v, not %v", s.name, id, got, want)
			}
		}
	}
}

func (s *subject) do(e api.Event) {
	s.t.Helper()
	if got, want := s.n.Do(e), s.m.do(e); got != want {
		s.t.Fatalf("%s: Do(%v) is %v, not %v", s.name, e, got, want)
	}
	s.check()
}

// acts lets the source send its blocks, by numbers.
func (s *subject) acts(blocks ...int) {
	s.t.Helper()
	for _, i := range blocks {
		s.do(api.Event{Kind: act, Node: source, Draws: []uint64{0, uint64(i)}})
	}
}

// all does all that shows what a network has: what its nodes send, the level of their links, what they take, whom they know.
func (s *subject) all() {
	s.t.Helper()
	for i := range uint64(3) {
		for id := range s.m.nodes {
			s.do(api.Event{Kind: act, Node: id, Draws: []uint64{i, i}})
		}
		for range 6 {
			s.do(api.Event{Kind: deliver, N: 1})
		}
		s.do(api.Event{Kind: tick, N: 1})
	}
	for len(s.m.way) > 0 {
		s.do(api.Event{Kind: deliver})
	}
	s.do(api.Event{Kind: tick, N: 3})
}

// told holds what is under way against what was worked out by hand.
func told(t *testing.T, name string, n *net.Net, want []api.Flight) {
	t.Helper()
	if got := n.Flights(); !slices.Equal(got, want) {
		t.Errorf("%s: under way are %s, not %s", name, shown(got), shown(want))
	}
}

// reports holds a node's report against what was worked out by hand.
func reports(t *testing.T, name string, n *net.Net, id int, want api.Report) {
	t.Helper()
	if got := n.Report(id); got != want {
		t.Errorf("%s: node %d tells %v, not %v", name, id, got, want)
	}
}

// done fails, unless something was done.
func done(t *testing.T, n *net.Net, l ...api.Event) {
	t.Helper()
	for _, e := range l {
		if !n.Do(e) {
			t.Errorf("%v was not done", e)
		}
	}
}

// made gives a network of c.
func made(t *testing.T, c api.Config) *net.Net {
	t.Helper()
	n, err := net.New(c)
	if n == nil || err != api.OK {
		t.Fatalf("no network: %d", err)
	}
	return n
}

// checked fails, unless Check and New answer so; where there is no error, the network must be as at first.
func checked(t *testing.T, name string, c api.Config, want api.Errno) {
	t.Helper()
	if got := net.Check(c); got != want {
		t.Errorf("%s: Check is %d, not %d", name, got, want)
	}
	n, err := net.New(c)
	if err != want || (n == nil) != (want != api.OK) {
		t.Errorf("%s: New is %v, %d, not %d", name, n != nil, err, want)
	}
	if n == nil {
		return
	}
	if n.Now() != 0 || len(n.Flights()) != 0 {
		t.Errorf("%s: at first the moment is %d, under way are %s", name, n.Now(), shown(n.Flights()))
	}
	for id := range len(c.Nodes) + 1 {
		reports(t, name, n, id, api.Report{})
	}
}

// errIf gives ErrArg, if something is wrong.
func errIf(wrong bool) api.Errno {
	if wrong {
		return api.ErrArg
	}
	return api.OK
}

// TestLimits: the limits and kinds are those that the tests count by.
func TestLimits(t *testing.T) {
	if api.MaxK != maxK || api.MaxBlock != maxBlock || api.MaxNodes != maxNodes || api.MaxCap != maxCap || api.MaxTick != maxTick || api.MaxNow != maxNow || api.MaxWay != maxWay {
		t.Error("another limit")
	}
	kinds := []int{api.EventTick, api.EventAct, api.EventDeliver, api.EventLose, api.EventDouble, api.EventAlter, api.EventCrash}
	if !slices.Equal(kinds, []int{tick, act, deliver, lose, double, alter, crash}) || api.NodeSource != 1 || api.NodeRelay != 2 || api.NodeSink != 3 {
		t.Error("another kind")
	}
}

// TestExample is the chapter's: act of the source, one frame for each of its To; the frames' bytes are worked out by the test.
func TestExample(t *testing.T) {
	n := made(t, config())
	done(t, n, api.Event{Kind: api.EventAct, Node: source, Draws: []uint64{0, 5}})
	told(t, "the source acted", n, flights(0, block(0, 0, 0, 5), 2, 1))
	for _, to := range [][]int{nil, {}, {4}, {1, 2, 3, 4}, {4, 2, 3, 1}} {
		n := made(t, with(func(c *api.Config) { c.Nodes[source].To = to }))
		done(t, n, api.Event{Kind: api.EventAct, Node: source, Draws: []uint64{0, 5}})
		told(t, fmt.Sprint(to), n, flights(0, block(0, 0, 0, 5), to...))
	}
}

// TestCheckNodes: how many there are.
func TestCheckNodes(t *testing.T) {
	for _, many := range []int{0, 1, 2, 3, 4, 5, 6, 7, 8, 9, 10, 15, 16, 17, 255, 256, 257, 264, 1 << 16, 1<<16 + 1} {
		c := config()
		c.Nodes = slices.Repeat([]api.Node{{Kind: 2}}, many)
		if many > 0 {
			c.Nodes[many/2].Kind = 1
		}
		checked(t, fmt.Sprintf("%d nodes", many), c, errIf(many < 1 || many > maxNodes))
	}
	checked(t, "nodes of an empty list", with(func(c *api.Config) { c.Nodes = []api.Node{} }), api.ErrArg)
	checked(t, "nothing", api.Config{}, api.ErrArg)
}

// TestCheckKinds: of each node, in networks of several sizes.
func TestCheckKinds(t *testing.T) {
	for many := 1; many <= maxNodes; many++ {
		for id := range many {
			for _, kind := range around(-4, 12) {
				c := config()
				c.Nodes = slices.Repeat([]api.Node{{Kind: 3}}, many)
				c.Nodes[(id+1)%many].Kind = 1
				c.Nodes[id].Kind = kind
				wrong := kind != 2 && kind != 3
				if many == 1 {
					wrong = kind != 1
				}
				checked(t, fmt.Sprintf("node %d of %d is of kind %d", id, many, kind), c, errIf(wrong))
			}
		}
	}
}

// TestCheckSources: each choice of kinds of up to five nodes has just one.
func TestCheckSources(t *testing.T) {
	for many, all := 1, 3; many <= 5; many, all = many+1, all*3 {
		for choice := range all {
			c := config()
			c.Nodes = make([]api.Node, many)
			sources := 0
			for id, left := 0, choice; id < many; id, left = id+1, left/3 {
				c.Nodes[id].Kind = 1 + left%3
				if left%3 == 0 {
					sources++
				}
			}
			checked(t, fmt.Sprint(c.Nodes), c, errIf(sources != 1))
		}
	}
	for id := range maxNodes {
		c := config()
		c.Nodes = slices.Repeat([]api.Node{{Kind: 2}}, maxNodes)
		c.Nodes[id].Kind = 1
		checked(t, fmt.Sprintf("the source is %d", id), c, api.OK)
		c.Nodes[(id+3)%maxNodes].Kind = 1
		checked(t, fmt.Sprintf("the source is %d, and another", id), c, api.ErrArg)
	}
}

// TestCheckTo: of each node, each number at each place.
func TestCheckTo(t *testing.T) {
	for many := 1; many <= maxNodes; many++ {
		c := config()
		c.Nodes = slices.Repeat([]api.Node{{Kind: 2}}, many)
		c.Nodes[many-1].Kind = 1
		for id := range many {
			others := make([]int, 0, many)
			for x := many - 1; x >= 0; x-- {
				if x != id {
					others = append(others, x)
				}
			}
			for cut := range many {
				c.Nodes[id].To = others[:cut]
				checked(t, fmt.Sprintf("node %d of %d sends to %d", id, many, others[:cut]), c, api.OK)
				for place := range cut + 1 {
					for _, x := range around(-2, many+2) {
						c.Nodes[id].To = slices.Insert(slices.Clone(others[:cut]), place, x)
						wrong := x < 0 || x >= many || x == id || slices.Contains(others[:cut], x)
						checked(t, fmt.Sprintf("node %d of %d sends to %d", id, many, c.Nodes[id].To), c, errIf(wrong))
					}
				}
			}
			c.Nodes[id].To = nil
		}
	}
	long := make([]int, 1<<22)
	for i := range long {
		long[i] = 1 + i%4
	}
	checked(t, "a To of millions", with(func(c *api.Config) { c.Nodes[0].To = long }), api.ErrArg)
	checked(t, "To of none", with(func(c *api.Config) { c.Nodes[0].To = []int{} }), api.OK)
}

// bound is a number of a config, and within what it must be.
type bound struct {
	name        string
	set         func(c *api.Config, x int)
	least, most int
}

func bounds() []bound {
	return []bound{
		{"Spread", func(c *api.Config, x int) { c.Spread = x }, 0, 128},
		{"Buffer", func(c *api.Config, x int) { c.Buffer = x }, 1, 256},
		{"Queue", func(c *api.Config, x int) { c.Queue = x }, 1, 256},
		{"Cache", func(c *api.Config, x int) { c.Cache = x }, 0, 256},
		{"Timeout", func(c *api.Config, x int) { c.Timeout = x }, 0, 1048576},
		{"Target", func(c *api.Config, x int) { c.Target = x }, 1, 128},
	}
}

// TestCheckBounds: each number at its edges and far beyond.
func TestCheckBounds(t *testing.T) {
	for _, b := range bounds() {
		near := []int{b.most/2 - 1, b.most / 2, b.most - 2, b.most - 1, b.most, b.most + 1, b.most + 2, 2 * b.most, 2*b.most + 1, 127, 128, 129, 255, 256, 257, maxTick - 1, maxTick, maxTick + 1}
		for _, x := range append(near, around(-20, 20)...) {
			c := config()
			b.set(&c, x)
			checked(t, fmt.Sprintf("%s %d", b.name, x), c, errIf(x < b.least || x > b.most))
		}
	}
	for name, c := range map[string]api.Config{
		"all the least": with(func(c *api.Config) {
			c.Object, c.Size, c.Spread, c.Buffer, c.Queue, c.Cache, c.Timeout, c.Target = "", 1, 0, 1, 1, 0, 0, 1
		}),
		"all the greatest": with(func(c *api.Config) {
			c.Object, c.Size, c.Spread, c.Buffer, c.Queue, c.Cache, c.Timeout, c.Target = strings.Repeat("x", 8192), 64, 128, 256, 256, 256, 1048576, 128
		}),
	} {
		checked(t, name, c, api.OK)
	}
}

// TestCheckRate: any is taken.
func TestCheckRate(t *testing.T) {
	for _, rate := range []float64{math.NaN(), math.Inf(-1), math.Inf(1), -math.MaxFloat64, math.MaxFloat64, -1, math.Copysign(0, -1), 0, math.SmallestNonzeroFloat64, 0.5, 1, 1000, 1001} {
		c := with(func(c *api.Config) { c.Rate = rate })
		checked(t, fmt.Sprintf("Rate %g", rate), c, api.OK)
		begun(t, fmt.Sprintf("Rate %g", rate), c).all()
	}
}

// objects are lengths and sizes, with Plan's error by hand.
var objects = []struct {
	length, size int
	err          api.Errno
}{
	{0, 1, api.OK}, {1, 1, api.OK}, {127, 1, api.OK}, {128, 1, api.OK}, {129, 1, api.ErrSize}, {130, 1, api.ErrSize}, {255, 2, api.OK}, {256, 2, api.OK}, {257, 2, api.ErrSize},
	{0, 64, api.OK}, {8191, 64, api.OK}, {8192, 64, api.OK}, {8193, 64, api.ErrSize}, {1 << 20, 64, api.ErrSize},
	{0, 0, api.ErrArg}, {0, 65, api.ErrArg}, {0, -1, api.ErrArg}, {1, 0, api.ErrArg}, {1, 65, api.ErrArg}, {1, -1, api.ErrArg}, {8, 1<<32 + 1, api.ErrArg}, {8, math.MinInt, api.ErrArg}, {8, math.MaxInt, api.ErrArg},
	{129, 0, api.ErrArg}, {8321, 65, api.ErrArg}, {1 << 20, 0, api.ErrArg}, {1 << 20, -1, api.ErrArg}, {1 << 20, 65, api.ErrArg}, {1 << 20, math.MinInt, api.ErrArg},
}

// TestCheckObject: Plan's error of Object and Size.
func TestCheckObject(t *testing.T) {
	for _, x := range objects {
		c := with(func(c *api.Config) { c.Object, c.Size = strings.Repeat("x", x.length), x.size })
		checked(t, fmt.Sprintf("%d bytes by %d", x.length, x.size), c, x.err)
	}
	for size := 1; size <= maxBlock; size++ {
		for _, length := range []int{0, size, maxK*size - 1, maxK * size} {
			checked(t, fmt.Sprintf("%d bytes by %d", length, size), with(func(c *api.Config) { c.Object, c.Size = strings.Repeat("x", length), size }), api.OK)
		}
		checked(t, fmt.Sprintf("a byte too many by %d", size), with(func(c *api.Config) { c.Object, c.Size = strings.Repeat("x", maxK*size+1), size }), api.ErrSize)
	}
}

// TestCheckTwo: where something else is wrong beside Object and Size, that comes first.
func TestCheckTwo(t *testing.T) {
	wrongs := map[string]func(*api.Config){
		"no node":           func(c *api.Config) { c.Nodes = nil },
		"nine nodes":        func(c *api.Config) { c.Nodes = append(c.Nodes, slices.Repeat([]api.Node{{Kind: 2}}, 4)...) },
		"another kind":      func(c *api.Config) { c.Nodes[mute].Kind = 4 },
		"no source":         func(c *api.Config) { c.Nodes[source].Kind = 2 },
		"two sources":       func(c *api.Config) { c.Nodes[mute].Kind = 1 },
		"To itself":         func(c *api.Config) { c.Nodes[mute].To = []int{mute} },
		"To none":           func(c *api.Config) { c.Nodes[mute].To = []int{count} },
		"To one twice":      func(c *api.Config) { c.Nodes[mute].To = []int{1, 2, 1} },
		"all of it at once": func(c *api.Config) { *c = api.Config{Object: c.Object, Size: c.Size} },
	}
	for _, b := range bounds() {
		wrongs[b.name+" too small"] = func(c *api.Config) { b.set(c, b.least-1) }
		wrongs[b.name+" too great"] = func(c *api.Config) { b.set(c, b.most+1) }
	}
	for name, wrong := range wrongs {
		for _, x := range objects {
			c := with(wrong)
			c.Object, c.Size = strings.Repeat("x", x.length), x.size
			checked(t, fmt.Sprintf("%s, %d bytes by %d", name, x.length, x.size), c, api.ErrArg)
		}
	}
}

// TestNewNodes: each is of its own kind, number and To.
func TestNewNodes(t *testing.T) {
	n := made(t, config())
	var want []api.Flight
	for id, to := range [][]int{{2, 1}, {3}, {4, 0, 3, 1}, {2}, {}} {
		done(t, n, api.Event{Kind: act, Node: id, Draws: []uint64{0, 3}})
		text := hello(id, 0)
		if id == source {
			text = block(0, 0, 0, 3)
		}
		want = append(want, flights(id, text, to...)...)
	}
	told(t, "each node acted", n, want)
	for name, c := range map[string]api.Config{
		"one node": {Nodes: []api.Node{{Kind: 1}}, Size: 1, Buffer: 1, Queue: 1, Target: 1},
		"eight nodes": with(func(c *api.Config) {
			c.Nodes = append(c.Nodes, api.Node{Kind: 3, To: []int{7, 0}}, api.Node{Kind: 2, To: []int{0, 1, 2, 3, 4, 5, 7}}, api.Node{Kind: 2, To: []int{6}})
		}),
		"the source is the last": with(func(c *api.Config) { c.Nodes[source].Kind, c.Nodes[mute] = 2, api.Node{Kind: 1, To: []int{1, 2}} }),
		"all else the least":     with(func(c *api.Config) { c.Object, c.Buffer, c.Queue, c.Cache, c.Timeout, c.Rate = "", 1, 1, 0, 0, 0 }),
	} {
		begun(t, name, c).all()
	}
}

// TestLine: a source, a relay and a sink, by hand.
func TestLine(t *testing.T) {
	c := api.Config{
		Nodes:  []api.Node{{Kind: 1, To: []int{1}}, {Kind: 2, To: []int{2}}, {Kind: 3, To: []int{1}}},
		Object: "abcdefgh", Size: 1, Buffer: 8, Queue: 2, Cache: 4, Rate: 0.5, Timeout: 3, Target: 1,
	}
	n := made(t, c)
	done(t, n, api.Event{Kind: tick, N: 7}, api.Event{Kind: act, Draws: []uint64{0, 4}}, api.Event{Kind: act, Draws: []uint64{0, 6}}, api.Event{Kind: act, Draws: []uint64{0, 1}})
	told(t, "two tokens", n, append(flights(0, block(0, 0, 0, 4), 1), flights(0, block(0, 0, 0, 6), 1)...))
	reports(t, "the third waits", n, 0, api.Report{Queued: 1})
	done(t, n, api.Event{Kind: deliver, N: 1})
	told(t, "the second arrived", n, flights(0, block(0, 0, 0, 4), 1))
	reports(t, "the second arrived", n, 1, api.Report{Kept: 1, Rank: 1, Known: 1})
	done(t, n, api.Event{Kind: tick, N: 1})
	reports(t, "half a token", n, 0, api.Report{Queued: 1})
	done(t, n, api.Event{Kind: tick, N: 1})
	told(t, "a token", n, append(flights(0, block(0, 0, 0, 4), 1), flights(0, block(0, 0, 0, 1), 1)...))
	reports(t, "none waits", n, 0, api.Report{})
	done(t, n, api.Event{Kind: lose, N: 0}, api.Event{Kind: deliver, N: 0}, api.Event{Kind: act, Node: 1, Draws: []uint64{1}}, api.Event{Kind: double, N: 0})
	told(t, "the relay acted", n, append(flights(1, block(1, 0, 1, 1), 2), flights(1, block(1, 0, 1, 1), 2)...))
	done(t, n, api.Event{Kind: deliver, N: 1}, api.Event{Kind: crash, Node: 1})
	reports(t, "one came", n, 2, api.Report{Kept: 1, Rank: 1, Known: 1})
	reports(t, "it crashed", n, 1, api.Report{Inc: 1})
	told(t, "what it sent stays", n, flights(1, block(1, 0, 1, 1), 2))
	done(t, n, api.Event{Kind: deliver})
	reports(t, "it was seen", n, 2, api.Report{Kept: 1, Rank: 1, Known: 1})
	done(t, n, api.Event{Kind: act, Node: 1}, api.Event{Kind: act, Node: 2})
	told(t, "hellos", n, append(flights(1, hello(1, 1), 2), flights(2, hello(2, 0), 1)...))
	done(t, n, api.Event{Kind: tick, N: 3})
	reports(t, "just known", n, 2, api.Report{Kept: 1, Rank: 1, Known: 1})
	done(t, n, api.Event{Kind: tick, N: 1})
	reports(t, "no more", n, 2, api.Report{Kept: 1, Rank: 1})
	if n.Now() != 13 {
		t.Errorf("the moment is %d", n.Now())
	}
	for i := range 8 {
		done(t, n, api.Event{Kind: tick, N: 2}, api.Event{Kind: act, Draws: []uint64{0, uint64(i)}}, api.Event{Kind: deliver, N: -1}, api.Event{Kind: act, Node: 1, Draws: []uint64{uint64(i)}}, api.Event{Kind: deliver, N: -1})
	}
	reports(t, "all came", n, 2, api.Report{Kept: 8, Rank: 8, Known: 1, Done: true, Object: "abcdefgh"})
}

// TestTick: N of every kind; the moment, by hand.
func TestTick(t *testing.T) {
	for _, k := range append(around(-5, 9), maxTick-1, maxTick, maxTick+1, 2*maxTick, maxNow-1, maxNow, maxNow+1) {
		want := k
		if k < 0 {
			want = 0
		} else if k > 1048576 {
			want = 1048576
		}
		n := made(t, config())
		done(t, n, api.Event{Kind: tick, N: 3}, api.Event{Kind: tick, N: k})
		if got := n.Now(); got != 3+want {
			t.Errorf("%d ticks: the moment is %d, not %d", k, got, 3+want)
		}
		s := begun(t, fmt.Sprintf("%d ticks", k), with(func(c *api.Config) { c.Rate = 0.25 }))
		for i := range 6 {
			for id := range count {
				s.do(api.Event{Kind: act, Node: id, Draws: []uint64{0, uint64(i)}})
			}
		}
		// What else an event has makes no difference.
		s.do(api.Event{Kind: tick, N: k, Node: -1, At: 5, By: 6, Draws: []uint64{7}})
		s.do(api.Event{Kind: tick, N: k, Node: count})
		s.all()
	}
}

// TestTickOrder: each node in order, by hand: what waits at each goes link by link.
func TestTickOrder(t *testing.T) {
	n := made(t, with(func(c *api.Config) { c.Queue, c.Rate = 1, 1 }))
	for _, id := range []int{3, 2, 1, 0, 3, 2, 1, 0} {
		done(t, n, api.Event{Kind: act, Node: id, Draws: []uint64{0, 2}})
	}
	want := slices.Concat(flights(3, hello(3, 0), 2), flights(2, hello(2, 0), 4, 0, 3, 1), flights(1, hello(1, 0), 3), flights(0, block(0, 0, 0, 2), 2, 1))
	told(t, "the first ones went", n, want)
	done(t, n, api.Event{Kind: tick, N: 0})
	told(t, "no tick", n, want)
	done(t, n, api.Event{Kind: tick, N: 1})
	want = slices.Concat(want, flights(0, block(0, 0, 0, 2), 2, 1), flights(1, hello(1, 0), 3), flights(2, hello(2, 0), 4, 0, 3, 1), flights(3, hello(3, 0), 2))
	told(t, "a tick", n, want)
	for id := range count {
		reports(t, "none waits", n, id, api.Report{})
	}
}

// TestTickRates: of a tick that is bounded no more tokens come than of the bound.
func TestTickRates(t *testing.T) {
	for _, rate := range []float64{0, 0.001, 0.0019, 0.5, 1, 3, 1000} {
		for _, k := range []int{math.MinInt, -1, 0, 1, 2, 999, 1000, 4000, maxTick, maxTick + 1, math.MaxInt} {
			s := begun(t, fmt.Sprintf("rate %g, %d ticks", rate, k), with(func(c *api.Config) { c.Rate = rate }))
			s.acts(0, 1, 2, 3, 4, 5, 6, 7)
			s.do(api.Event{Kind: tick, N: k})
			s.do(api.Event{Kind: tick, N: k})
			s.all()
		}
	}
}

// late gives a network that is so many moments ahead of MaxNow.
func late(t *testing.T, name string, c api.Config, ahead int) *subject {
	t.Helper()
	s := begun(t, name, c)
	for range maxNow/maxTick - 1 {
		e := api.Event{Kind: tick, N: maxTick}
		s.n.Do(e)
		s.m.do(e)
	}
	s.check()
	s.do(api.Event{Kind: tick, N: maxTick - ahead})
	if s.n.Now() != maxNow-ahead {
		t.Fatalf("%s: the moment is %d", name, s.n.Now())
	}
	return s
}

// TestLast: the moment is at most MaxNow, and there tokens come, frames go, and nodes are known as ever.
func TestLast(t *testing.T) {
	c := api.Config{Nodes: []api.Node{{Kind: 1, To: []int{1}}, {Kind: 3}}, Object: "abcdefgh", Size: 1, Buffer: 8, Queue: 2, Cache: 4, Rate: 1, Timeout: 2, Target: 1}
	s := late(t, "last", c, 4)
	s.acts(0, 1, 2, 3)
	s.do(api.Event{Kind: deliver})
	s.do(api.Event{Kind: tick, N: 3})
	if s.n.Now() != maxNow-1 || s.n.Report(1).Known != 0 {
		t.Errorf("%d, %v", s.n.Now(), s.n.Report(1))
	}
	s.do(api.Event{Kind: deliver})
	for _, k := range []int{1, 1, 5, maxTick, 0, -1, math.MaxInt, math.MinInt} {
		s.acts(4)
		s.do(api.Event{Kind: tick, N: k})
		if s.n.Now() != maxNow {
			t.Errorf("the moment is %d", s.n.Now())
		}
		reports(t, "known at the last moment", s.n, 1, api.Report{Kept: 2, Rank: 2, Known: 1})
	}
	s.all()
	for _, k := range []int{2, maxTick, math.MaxInt} {
		s := late(t, "beyond", config(), 1)
		s.do(api.Event{Kind: tick, N: k})
		if s.n.Now() != maxNow {
			t.Errorf("the moment is %d", s.n.Now())
		}
		s.all()
	}
}

// TestAct: of each kind of node, by draws of every kind; by hand, and against the model.
func TestAct(t *testing.T) {
	for name, x := range map[string]struct {
		draws []uint64
		block int
	}{
		"just those":     {[]uint64{0, 6}, 6},
		"more than used": {[]uint64{0, 6, 1, 2, 3}, 6},
		"great ones":     {[]uint64{1048575, math.MaxUint64}, 7},
	} {
		n := made(t, config())
		done(t, n, api.Event{Kind: act, Draws: x.draws})
		told(t, name, n, flights(0, block(0, 0, 0, x.block), 2, 1))
	}
	for _, d := range [][]uint64{nil, {}, {0}, {1}, {400000}, {0, 1}, {700000, 1}, {700000, 1, 2, 3, 4, 5, 6, 7, 8, 9}, {math.MaxUint64, math.MaxUint64, math.MaxUint64}} {
		for id := range count {
			s := begun(t, fmt.Sprintf("node %d by %d", id, d), config())
			// Nodes act with nothing kept, with something, and with a queue that is full.
			s.do(api.Event{Kind: act, Node: id, Draws: d})
			s.acts(0, 1, 2)
			for range 7 {
				s.do(api.Event{Kind: deliver})
			}
			for range 9 {
				s.do(api.Event{Kind: act, Node: id, N: -1, At: 3, By: 4, Draws: d})
			}
			s.all()
		}
	}
}

// TestNoNode: an act or a crash of a node that is none does nothing.
func TestNoNode(t *testing.T) {
	s := begun(t, "no node", config())
	s.acts(0, 1, 2)
	s.do(api.Event{Kind: deliver})
	before := s.n.Flights()
	for _, id := range append(slices.Clone(odd), -count, -6, -5, -4, count, count+1, 6, 7, 8, 9, 2*count, 255, 256) {
		for _, kind := range []int{act, crash} {
			if s.n.Do(api.Event{Kind: kind, Node: id, Draws: []uint64{0, 1}}) {
				t.Errorf("kind %d: something was done to node %d", kind, id)
			}
			s.check()
		}
		if got := s.n.Report(id); got != (api.Report{}) {
			t.Errorf("node %d tells %v", id, got)
		}
	}
	told(t, "nothing was done", s.n, before)
	s.all()
	one := begun(t, "one node", api.Config{Nodes: []api.Node{{Kind: 1}}, Size: 1, Buffer: 1, Queue: 1, Target: 1})
	for id := -2; id <= 2; id++ {
		one.do(api.Event{Kind: act, Node: id})
		one.do(api.Event{Kind: crash, Node: id})
	}
	reports(t, "one node", one.n, 0, api.Report{Inc: 1})
}

// TestOtherKinds: events of no kind do nothing, whatever else they have.
func TestOtherKinds(t *testing.T) {
	s := begun(t, "other kinds", config())
	for round := range 3 {
		for _, kind := range append(slices.Clone(odd), -8, -7, -6, -5, -4, 0, 8, 9, 10, 14, 15, 16, 255, 256, 257+7) {
			for _, e := range []api.Event{{}, {Node: 1, N: 1, At: 1, By: 1, Draws: []uint64{0, 1}}, {Node: -1, N: -1, At: -1, By: -1}} {
				e.Kind = kind
				if s.n.Do(e) {
					t.Errorf("%v was done", e)
				}
				s.check()
			}
		}
		s.acts(round)
	}
	s.all()
}

// frames gives a network with so many frames under way, of which no two are alike.
func frames(t *testing.T, name string, many int) *subject {
	t.Helper()
	s := begun(t, name, with(func(c *api.Config) { c.Queue = 256 }))
	for i := range (many + 1) / 2 {
		s.acts(i)
	}
	if many%2 == 1 {
		s.do(api.Event{Kind: lose, N: 0})
	}
	if len(s.n.Flights()) != many {
		t.Fatalf("%s: there are %s", name, shown(s.n.Flights()))
	}
	return s
}

// eachPlace calls check for each number of frames, each N, and the place that it is, by hand where it is near.
func eachPlace(check func(many, n, at int)) {
	for many := 1; many <= 5; many++ {
		for at := range many {
			for turn := -3; turn <= 3; turn++ {
				check(many, turn*many+at, at)
			}
		}
		for _, n := range odd {
			check(many, n, modulo(n, many))
		}
	}
}

// TestDeliver: the one at N goes out, and its To, no other, receives it.
func TestDeliver(t *testing.T) {
	eachPlace(func(many, n, at int) {
		name := fmt.Sprintf("%d frames, %d arrives", many, n)
		s := frames(t, name, many)
		before := s.n.Flights()
		s.do(api.Event{Kind: deliver, N: n, Node: -1, At: 7, By: 9})
		told(t, name, s.n, append(slices.Clone(before[:at]), before[at+1:]...))
		for id := range count {
			want := api.Report{}
			if id == before[at].To {
				want = api.Report{Kept: 1, Rank: 1, Known: 1}
			}
			reports(t, name, s.n, id, want)
		}
		s.all()
	})
}

// TestLose: the one at N goes out, and nobody receives it.
func TestLose(t *testing.T) {
	eachPlace(func(many, n, at int) {
		name := fmt.Sprintf("%d frames, %d is lost", many, n)
		s := frames(t, name, many)
		before := s.n.Flights()
		s.do(api.Event{Kind: lose, N: n, Node: 1, At: 7, By: 9})
		told(t, name, s.n, append(slices.Clone(before[:at]), before[at+1:]...))
		for id := range count {
			reports(t, name, s.n, id, api.Report{})
		}
		s.all()
	})
}

// TestDouble: the one at N comes once more, behind all; both are altered, lost and delivered each by itself.
func TestDouble(t *testing.T) {
	eachPlace(func(many, n, at int) {
		name := fmt.Sprintf("%d frames, %d is doubled", many, n)
		s := frames(t, name, many)
		before := s.n.Flights()
		s.do(api.Event{Kind: double, N: n, Node: 1, At: 7, By: 9})
		want := append(before, before[at])
		told(t, name, s.n, want)
		s.do(api.Event{Kind: alter, N: at, By: 1})
		if l := s.n.Flights(); l[many] != want[many] || l[at] == want[at] {
			t.Errorf("%s: altered: %s", name, shown(l))
		}
		s.do(api.Event{Kind: alter, N: at, By: 1})
		s.do(api.Event{Kind: alter, N: many, By: 1})
		if l := s.n.Flights(); l[many] == want[many] || l[at] != want[at] {
			t.Errorf("%s: altered: %s", name, shown(l))
		}
		s.do(api.Event{Kind: deliver, N: at})
		reports(t, name, s.n, want[at].To, api.Report{Kept: 1, Rank: 1, Known: 1})
		s.do(api.Event{Kind: deliver, N: -1})
		reports(t, name, s.n, want[at].To, api.Report{Kept: 1, Rank: 1, Known: 1})
		s.all()
	})
}

// TestDoubled: without a cache a sink keeps what comes twice.
func TestDoubled(t *testing.T) {
	n := made(t, with(func(c *api.Config) { c.Nodes[source].To, c.Cache = []int{sink}, 0 }))
	done(t, n, api.Event{Kind: act, Draws: []uint64{0, 1}}, api.Event{Kind: double}, api.Event{Kind: double, N: 1}, api.Event{Kind: deliver}, api.Event{Kind: deliver}, api.Event{Kind: deliver})
	reports(t, "thrice", n, sink, api.Report{Kept: 3, Rank: 1, Known: 1})
	told(t, "all came", n, nil)
}

// TestAlter: the one at N is altered, in its place, and no other.
func TestAlter(t *testing.T) {
	eachPlace(func(many, n, at int) {
		name := fmt.Sprintf("%d frames, %d is altered", many, n)
		s := frames(t, name, many)
		want := s.n.Flights()
		s.do(api.Event{Kind: alter, N: n, Node: 9, At: 2, By: 0x81})
		b := []byte(want[at].Bytes)
		b[2] ^= 0x81
		want[at].Bytes = string(b)
		told(t, name, s.n, want)
		for id := range count {
			reports(t, name, s.n, id, api.Report{})
		}
		s.all()
	})
}

// TestAlterAt: each byte, from either end and from beyond, of frames with a packet and without.
func TestAlterAt(t *testing.T) {
	for _, x := range []struct{ node, length int }{{source, 30}, {sink, 10}} {
		for _, at := range append(around(-3*x.length-1, 3*x.length+1), 255, 256, 300) {
			name := fmt.Sprintf("byte %d of %d", at, x.length)
			n := made(t, config())
			done(t, n, api.Event{Kind: act, Node: x.node, Draws: []uint64{0, 1}})
			want := n.Flights()
			if len(want[0].Bytes) != x.length {
				t.Fatalf("%s: %s", name, shown(want))
			}
			b := []byte(want[0].Bytes)
			b[modulo(at, x.length)] ^= 0x42
			want[0].Bytes = string(b)
			done(t, n, api.Event{Kind: alter, At: at, By: 0x42})
			told(t, name, n, want)
		}
	}
	n := made(t, config())
	done(t, n, api.Event{Kind: act, Node: sink}, api.Event{Kind: alter, At: 0, By: 1}, api.Event{Kind: alter, At: 9, By: 2}, api.Event{Kind: alter, At: 11, By: 4}, api.Event{Kind: alter, At: -2, By: 8})
	b := []byte(hello(sink, 0))
	b[0], b[9], b[1], b[8] = b[0]^1, b[9]^2, b[1]^4, b[8]^8
	told(t, "by hand", n, flights(sink, string(b), hub))
}

// TestAlterBy: the lowest 8 bits, of every kind of number; none of them leaves the frame as it was, and twice the same too.
func TestAlterBy(t *testing.T) {
	for _, x := range []struct {
		by   int
		bits byte
	}{
		{0, 0}, {1, 1}, {127, 127}, {128, 128}, {255, 255}, {256, 0}, {257, 1}, {511, 255}, {512, 0}, {1 << 32, 0}, {1<<32 + 3, 3}, {math.MaxInt, 255}, {math.MaxInt - 1, 254},
		{-1, 255}, {-2, 254}, {-127, 129}, {-128, 128}, {-129, 127}, {-255, 1}, {-256, 0}, {-257, 255}, {math.MinInt, 0}, {math.MinInt + 5, 5},
	} {
		n := made(t, config())
		done(t, n, api.Event{Kind: act, Node: sink}, api.Event{Kind: alter, At: 4, By: x.by})
		b := []byte(hello(sink, 0))
		b[4] ^= x.bits
		told(t, fmt.Sprintf("by %d", x.by), n, flights(sink, string(b), hub))
		done(t, n, api.Event{Kind: alter, At: 4, By: x.by})
		told(t, fmt.Sprintf("by %d, twice", x.by), n, flights(sink, hello(sink, 0), hub))
		done(t, n, api.Event{Kind: deliver})
		reports(t, fmt.Sprintf("by %d, twice", x.by), n, hub, api.Report{Known: 1})
	}
	s := frames(t, "all bytes", 3)
	for by := range 256 {
		s.do(api.Event{Kind: alter, N: by, At: by, By: by})
	}
}

// TestRefused: a frame that its To refuses goes out all the same, and that is something done.
func TestRefused(t *testing.T) {
	for at := range 30 {
		for bit := range 8 {
			n := made(t, config())
			done(t, n, api.Event{Kind: act, Draws: []uint64{0, 1}}, api.Event{Kind: alter, At: at, By: 1 << bit}, api.Event{Kind: deliver})
			told(t, "refused", n, flights(0, block(0, 0, 0, 1), 1))
			for id := range count {
				reports(t, fmt.Sprintf("bit %d of byte %d", bit, at), n, id, api.Report{})
			}
			done(t, n, api.Event{Kind: deliver})
			reports(t, "the other one", n, near, api.Report{Kept: 1, Rank: 1, Known: 1})
		}
	}
}

// TestForged: what is altered so that its sum is right is received: here an incarnation.
func TestForged(t *testing.T) {
	n := made(t, config())
	done(t, n, api.Event{Kind: act, Node: sink})
	old, forged := hello(sink, 0), hello(sink, 5)
	for i := range old {
		done(t, n, api.Event{Kind: alter, At: i, By: int(old[i] ^ forged[i])})
	}
	told(t, "forged", n, flights(sink, forged, hub))
	done(t, n, api.Event{Kind: deliver})
	reports(t, "forged", n, hub, api.Report{Known: 1})
	// The incarnation that was heard is the greater one, so the true one is not heard any more, when the first is forgotten.
	done(t, n, api.Event{Kind: tick, N: 6}, api.Event{Kind: act, Node: sink}, api.Event{Kind: deliver})
	reports(t, "passed", n, hub, api.Report{})
}

// TestNoFrame: nothing is done to a frame, where there is none.
func TestNoFrame(t *testing.T) {
	for _, kind := range []int{deliver, lose, double, alter} {
		s := begun(t, fmt.Sprintf("kind %d", kind), config())
		try := func() {
			t.Helper()
			for _, n := range around(-3, 3) {
				if s.n.Do(api.Event{Kind: kind, N: n, Node: 1, At: n, By: n, Draws: []uint64{1}}) {
					t.Errorf("%d of kind %d was done", n, kind)
				}
				s.check()
			}
			told(t, "none", s.n, nil)
		}
		try()
		s.do(api.Event{Kind: tick, N: 4})
		s.do(api.Event{Kind: crash, Node: 1})
		s.do(api.Event{Kind: act, Node: mute})
		try()
		s.acts(0, 1)
		for range 4 {
			s.do(api.Event{Kind: deliver})
		}
		try()
		s.do(api.Event{Kind: act, Node: sink})
		s.do(api.Event{Kind: lose})
		try()
		s.all()
	}
}

// TestCrash: of each kind of node; what is under way stays, and the others are as they were.
func TestCrash(t *testing.T) {
	for id := range count {
		s := begun(t, fmt.Sprintf("node %d crashes", id), config())
		for i := range 6 {
			s.acts(i)
			for x := range count {
				s.do(api.Event{Kind: act, Node: x, Draws: []uint64{uint64(i)}})
				s.do(api.Event{Kind: deliver, N: i})
				s.do(api.Event{Kind: deliver, N: 2 * i})
			}
		}
		before := s.n.Flights()
		var was [count]api.Report
		for x := range count {
			was[x] = s.n.Report(x)
		}
		s.do(api.Event{Kind: crash, Node: id, N: 3, At: 4, By: 5, Draws: []uint64{6}})
		told(t, s.name, s.n, before)
		was[id] = api.Report{Inc: 1}
		for x := range count {
			reports(t, s.name, s.n, x, was[x])
		}
		s.do(api.Event{Kind: act, Node: id, Draws: []uint64{0, 4}})
		text := hello(id, 1)
		if id == source {
			text = block(0, 1, 0, 4)
		}
		told(t, s.name+" and acts", s.n, append(before, flights(id, text, config().Nodes[id].To...)...))
		s.do(api.Event{Kind: crash, Node: id})
		reports(t, s.name, s.n, id, api.Report{Inc: 2})
		s.all()
	}
}

// filled gives a network with so many frames under way, the first ones the source's of blocks 0 and 1.
func filled(t *testing.T, name string, c api.Config, many int) *subject {
	t.Helper()
	s := begun(t, name, c)
	for i := range 2 {
		e := api.Event{Kind: act, Draws: []uint64{0, uint64(i)}}
		s.n.Do(e)
		s.m.do(e)
	}
	for i := 0; len(s.m.way) < many; i++ {
		e := api.Event{Kind: double, N: i}
		s.n.Do(e)
		s.m.do(e)
	}
	s.check()
	if got := len(s.n.Flights()); got != many {
		t.Fatalf("%s: there are %d", name, got)
	}
	return s
}

// TestWayAct: what is pumped comes in as long as there are less than MaxWay; beyond it is lost.
func TestWayAct(t *testing.T) {
	for many := maxWay - 6; many <= maxWay; many++ {
		for id := range count {
			name := fmt.Sprintf("%d under way, node %d acts", many, id)
			s := filled(t, name, config(), many)
			before := s.n.Flights()
			s.do(api.Event{Kind: act, Node: id, Draws: []uint64{0, 5}})
			text := hello(id, 0)
			if id == source {
				text = block(0, 0, 0, 5)
			}
			sent := flights(id, text, config().Nodes[id].To...)
			told(t, name, s.n, append(before, sent[:min(len(sent), 512-many)]...))
			// What is lost waits no more: it does not come, once there is room.
			reports(t, name, s.n, id, api.Report{})
			before = s.n.Flights()
			s.do(api.Event{Kind: lose})
			s.do(api.Event{Kind: tick, N: 5})
			told(t, name+", later", s.n, before[1:])
		}
	}
}

// TestWayTick: likewise, where several nodes' frames go at a tick, in order.
func TestWayTick(t *testing.T) {
	for many := maxWay - 9; many <= maxWay; many++ {
		name := fmt.Sprintf("%d under way", many)
		s := filled(t, name, with(func(c *api.Config) { c.Queue = 2 }), many-2)
		for _, id := range []int{sink, hub, near} {
			for range 2 {
				s.do(api.Event{Kind: act, Node: id})
			}
		}
		for len(s.m.way) > many-2 {
			s.do(api.Event{Kind: lose, N: -1})
		}
		// No node has a token left.
		for id := range count {
			s.do(api.Event{Kind: act, Node: id, Draws: []uint64{0, 7}})
		}
		for len(s.m.way) < many {
			s.do(api.Event{Kind: double})
		}
		before := s.n.Flights()
		s.do(api.Event{Kind: tick, N: 1})
		sent := slices.Concat(flights(0, block(0, 0, 0, 7), 2, 1), flights(1, hello(1, 0), 3), flights(2, hello(2, 0), 4, 0, 3, 1), flights(3, hello(3, 0), 2))
		told(t, name, s.n, append(before, sent[:min(len(sent), 512-many)]...))
		for id := range count {
			reports(t, name, s.n, id, api.Report{})
		}
		s.do(api.Event{Kind: lose})
		s.do(api.Event{Kind: tick, N: 1})
		s.do(api.Event{Kind: tick, N: 1})
		s.do(api.Event{Kind: act, Node: hub})
	}
}

// TestWayFlood: of many more frames at once than there is room for, the first ones come.
func TestWayFlood(t *testing.T) {
	c := with(func(c *api.Config) {
		c.Nodes = append(slices.Repeat([]api.Node{{Kind: 2}}, 7), api.Node{Kind: 1, To: []int{6, 0, 5, 1, 4, 2, 3}})
		c.Queue, c.Rate = 256, 300
	})
	n := made(t, c)
	for range 256 {
		done(t, n, api.Event{Kind: act, Node: 7})
	}
	if got := len(n.Flights()); got != 512 {
		t.Fatalf("%d are under way", got)
	}
	for range 512 {
		done(t, n, api.Event{Kind: lose, N: 9})
	}
	for range 257 {
		done(t, n, api.Event{Kind: act, Node: 7})
	}
	told(t, "no token", n, nil)
	reports(t, "no token", n, 7, api.Report{Queued: 7 * 256})
	done(t, n, api.Event{Kind: tick, N: 1})
	reports(t, "a tick", n, 7, api.Report{})
	l := n.Flights()
	for i, x := range l {
		if want := []int{6, 0}[i/256]; x.From != 7 || x.To != want {
			t.Fatalf("%d goes to %d, not to %d", i, x.To, want)
		}
	}
	if len(l) != 512 {
		t.Errorf("%d are under way", len(l))
	}
}

// TestWayDouble: what is doubled beyond MaxWay is lost; something was done all the same.
func TestWayDouble(t *testing.T) {
	for _, many := range []int{maxWay - 2, maxWay - 1, maxWay} {
		for _, at := range []int{0, 1, many - 1, -1, many, math.MinInt, math.MaxInt} {
			name := fmt.Sprintf("%d under way, %d is doubled", many, at)
			s := filled(t, name, config(), many)
			want := s.n.Flights()
			for i := range 4 {
				if len(want) < 512 {
					want = append(want, want[modulo(at, len(want))])
				}
				if !s.n.Do(api.Event{Kind: double, N: at}) {
					t.Errorf("%s: nothing was done", name)
				}
				s.m.do(api.Event{Kind: double, N: at})
				s.check()
				told(t, fmt.Sprintf("%s, %d times", name, i+1), s.n, want)
			}
			s.do(api.Event{Kind: alter, N: at, At: 3, By: 3})
			s.do(api.Event{Kind: deliver, N: at})
			s.do(api.Event{Kind: double, N: at})
		}
	}
}

// TestWayEach: each of so many as may be is found by N.
func TestWayEach(t *testing.T) {
	s := filled(t, "each", config(), maxWay)
	for i := range maxWay {
		e := api.Event{Kind: alter, N: i, At: i, By: i/30 + 1}
		s.n.Do(e)
		s.m.do(e)
	}
	s.check()
	for _, n := range append(around(-2, 2), maxWay-1, maxWay, maxWay+1, -maxWay, -maxWay-1, 5*maxWay+7) {
		s.do(api.Event{Kind: alter, N: n, At: n, By: n})
		s.do(api.Event{Kind: lose, N: n})
		s.do(api.Event{Kind: deliver, N: n})
	}
}

// TestReport: of each node at this moment, as others act; what it knows hangs on the moment.
func TestReport(t *testing.T) {
	n := made(t, with(func(c *api.Config) { c.Nodes[source].To = []int{sink, near} }))
	for i := range 8 {
		done(t, n, api.Event{Kind: tick, N: 1}, api.Event{Kind: act, Draws: []uint64{0, uint64(i)}}, api.Event{Kind: deliver}, api.Event{Kind: deliver})
		if i < 7 {
			reports(t, "on the way", n, sink, api.Report{Kept: i + 1, Rank: i + 1, Known: 1})
		}
		reports(t, "on the way", n, near, api.Report{Kept: i + 1, Rank: i + 1, Known: 1})
	}
	full := api.Report{Kept: 8, Rank: 8, Known: 1, Done: true, Object: "abcdefgh"}
	reports(t, "done", n, sink, full)
	done(t, n, api.Event{Kind: tick, N: 5})
	reports(t, "just known", n, sink, full)
	done(t, n, api.Event{Kind: tick, N: 1})
	full.Known = 0
	reports(t, "no more", n, sink, full)
	done(t, n, api.Event{Kind: act, Node: hub}, api.Event{Kind: deliver, N: 2}, api.Event{Kind: deliver, N: 2})
	full.Known = 1
	reports(t, "another", n, sink, full)
	reports(t, "another", n, near, api.Report{Kept: 8, Rank: 8, Known: 1})
	reports(t, "a sink of nothing", n, mute, api.Report{})
	done(t, n, api.Event{Kind: crash, Node: sink})
	reports(t, "crashed", n, sink, api.Report{Inc: 1})
}

// TestNil: every call of a network that is none.
func TestNil(t *testing.T) {
	var n *net.Net
	for range 2 {
		for _, kind := range around(-1, 9) {
			for _, x := range around(-1, 2) {
				if n.Do(api.Event{Kind: kind, Node: x, N: x, At: x, By: x, Draws: []uint64{1, 2}}) {
					t.Errorf("kind %d was done", kind)
				}
			}
			if got := n.Report(kind); got != (api.Report{}) {
				t.Errorf("none tells %v", got)
			}
		}
		if n.Now() != 0 || len(n.Flights()) != 0 {
			t.Errorf("none tells %d, %s", n.Now(), shown(n.Flights()))
		}
	}
}

// TestZero (R1): a network that New did not make does not panic.
func TestZero(t *testing.T) {
	var n net.Net
	for _, kind := range around(-1, 9) {
		for _, x := range around(-1, 2) {
			n.Do(api.Event{Kind: kind, Node: x, N: x, At: x, By: x})
			n.Report(x)
		}
	}
	if len(n.Flights()) != 0 || n.Now() < 0 {
		t.Error("something is under way")
	}
}

// anyDraws gives up to 6 draws, small ones and great ones.
func anyDraws(r *rand.Rand) []uint64 {
	l := make([]uint64, r.IntN(7))
	for i := range l {
		l[i] = r.Uint64() >> r.IntN(64)
	}
	return l
}

// anyConfig gives a config that is a network.
func anyConfig(r *rand.Rand) api.Config {
	n := 1 + r.IntN(8)
	c := api.Config{
		Nodes: make([]api.Node, n), Object: strings.Repeat("abcdefg", 1+r.IntN(2)), Size: 1 + r.IntN(3), Spread: r.IntN(6), Buffer: 1 + r.IntN(12), Queue: 1 + r.IntN(5),
		Cache: r.IntN(6), Rate: 2 * r.Float64(), Timeout: r.IntN(8), Target: 1 + r.IntN(4),
	}
	for i := range c.Nodes {
		c.Nodes[i].Kind = 2 + r.IntN(2)
		for _, to := range r.Perm(n)[:r.IntN(n+1)] {
			if to != i {
				c.Nodes[i].To = append(c.Nodes[i].To, to)
			}
		}
	}
	c.Nodes[r.IntN(n)].Kind = 1
	return c
}

// anyNumber gives mostly a small one.
func anyNumber(r *rand.Rand) int {
	switch r.IntN(20) {
	case 0:
		return odd[r.IntN(len(odd))]
	case 1:
		return int(r.Uint64())
	}
	return r.IntN(40) - 8
}

// anyEvent gives an event, mostly one that is done; none is altered, unless that is asked for.
func anyEvent(r *rand.Rand, nodes int, altered bool) api.Event {
	e := api.Event{Node: anyNumber(r), N: anyNumber(r), At: anyNumber(r), By: anyNumber(r), Draws: anyDraws(r)}
	if r.IntN(20) > 0 {
		e.Node = r.IntN(nodes)
	}
	switch x := r.IntN(100); {
	case x < 12:
		e.Kind = tick
		if r.IntN(10) > 0 {
			e.N = r.IntN(4)
		}
	case x < 42:
		e.Kind = act
	case x < 80:
		e.Kind = deliver
	case x < 85:
		e.Kind = lose
	case x < 90:
		e.Kind = double
	case x < 96:
		e.Kind = double
		if altered {
			e.Kind = alter
		}
	case x < 98:
		e.Kind = crash
	default:
		e.Kind = anyNumber(r)
		if e.Kind == alter && !altered {
			e.Kind = 0
		}
	}
	return e
}

// TestAny: long scripts of some networks.
func TestAny(t *testing.T) {
	r := rand.New(rand.NewPCG(26, 1))
	for i := range 250 {
		c := anyConfig(r)
		s := begun(t, fmt.Sprintf("script %d of %v", i, c), c)
		for range 200 {
			s.do(anyEvent(r, len(c.Nodes), true))
		}
		s.all()
	}
}

// TestEquations (T1, T2): without altered frames, what is under way is the xor of the blocks that it says, and a sink tells the source's object or nothing.
func TestEquations(t *testing.T) {
	r := rand.New(rand.NewPCG(26, 2))
	times := 0
	for range 150 {
		c := anyConfig(r)
		var blocks []string
		for s := c.Object; s != ""; s = s[min(len(s), c.Size):] {
			blocks = append(blocks, (s + "\x00\x00\x00")[:c.Size])
		}
		n := made(t, c)
		for range 300 {
			n.Do(anyEvent(r, len(c.Nodes), false))
			for _, x := range n.Flights() {
				f, err := frame.Decode(x.Bytes)
				if err != api.OK || f.From != x.From || f.Kind == api.FrameData && !xor.Holds(blocks, f.Packet.Row) {
					t.Fatalf("%v: under way is %v, %v, %d", c, x, f, err)
				}
			}
			for id := range c.Nodes {
				x := n.Report(id)
				if x.Done {
					times++
				}
				if want := map[bool]string{true: c.Object}[x.Done]; x.Object != want {
					t.Fatalf("%v: node %d tells %v", c, id, x)
				}
			}
		}
	}
	if times < 1000 {
		t.Errorf("a sink was done only %d times", times)
	}
}

// TestEachShortScript: all scripts of up to 5 events out of nine.
func TestEachShortScript(t *testing.T) {
	c := api.Config{
		Nodes:  []api.Node{{Kind: 1, To: []int{1, 2}}, {Kind: 2, To: []int{2}}, {Kind: 3, To: []int{1}}},
		Object: "ab", Size: 1, Buffer: 2, Queue: 1, Cache: 1, Rate: 0.5, Timeout: 1, Target: 1,
	}
	events := []api.Event{
		{Kind: tick, N: 1},
		{Kind: act, Node: 0, Draws: []uint64{0, 1}},
		{Kind: act, Node: 1},
		{Kind: act, Node: 2},
		{Kind: deliver, N: 0},
		{Kind: lose, N: 1},
		{Kind: double, N: -1},
		{Kind: alter, N: 0, At: 5, By: 1},
		{Kind: crash, Node: 1},
	}
	const most = 5
	var grow func(list []api.Event)
	grow = func(list []api.Event) {
		n, m := made(t, c), modelled(c)
		s := &subject{t: t, name: fmt.Sprint(list), n: n, m: m}
		for _, e := range list {
			if n.Do(e) != m.do(e) {
				t.Fatalf("%v: the last was done, or not", list)
			}
		}
		s.check()
		if len(list) < most {
			for _, e := range events {
				grow(append(slices.Clip(list), e))
			}
		}
	}
	grow(nil)
}

// TestConfigHandedIn (R4): a config is not changed, not behind its lists' ends either, and what becomes of it behind New is not seen.
func TestConfigHandedIn(t *testing.T) {
	object := []byte("-abcdefgh-")
	c := config()
	c.Object = unsafe.String(&object[1], 8)
	nodes := append(slices.Clone(c.Nodes), api.Node{Kind: 99, To: []int{98}})
	var tos [count][]int
	for id := range count {
		tos[id] = append(slices.Clone(c.Nodes[id].To), 97)
		nodes[id].To = tos[id][:len(tos[id])-1]
	}
	c.Nodes = nodes[:count]
	if err := net.Check(c); err != api.OK {
		t.Fatal(err)
	}
	n := made(t, c)
	s := &subject{t: t, name: "handed in", n: n, m: modelled(config())}
	s.all()
	for id := range count {
		if want := append(config().Nodes[id].To, 97); !slices.Equal(tos[id], want) || nodes[id].Kind != config().Nodes[id].Kind {
			t.Errorf("node %d, as it was handed in, became %v, %d", id, nodes[id], tos[id])
		}
	}
	if string(object) != "-abcdefgh-" || nodes[count].Kind != 99 || nodes[count].To[0] != 98 {
		t.Errorf("what was handed in became %q, %v", object, nodes)
	}
	clear(object)
	for id := range count {
		clear(tos[id])
	}
	clear(nodes)
	s.all()
	for id := range count {
		s.do(api.Event{Kind: crash, Node: id})
	}
	s.all()
}

// TestEventHandedIn (R4): draws are not changed, and what becomes of them behind Do is not seen.
func TestEventHandedIn(t *testing.T) {
	s := begun(t, "draws", config())
	for range 6 {
		for id := range count {
			d := []uint64{400000, 3, 2, 1, 9, 9}
			s.do(api.Event{Kind: act, Node: id, Draws: d[:4]})
			if !slices.Equal(d, []uint64{400000, 3, 2, 1, 9, 9}) {
				t.Errorf("what was handed in became %d", d)
			}
			clear(d)
			s.check()
			s.do(api.Event{Kind: deliver})
		}
	}
	s.do(api.Event{Kind: tick, N: 2})
	s.all()
}

// wipe writes over flights, their bytes and what lies behind the list's end.
func wipe(l []api.Flight) {
	for _, x := range l {
		clear(unsafe.Slice(unsafe.StringData(x.Bytes), len(x.Bytes)))
	}
	clear(l[:cap(l)])
}

// TestFlightsHandedOut (R4): no two of an answer, nor of two, share memory, and what becomes of them changes nothing.
func TestFlightsHandedOut(t *testing.T) {
	s := begun(t, "handed out", config())
	s.acts(0, 1)
	for range 3 {
		s.do(api.Event{Kind: double})
	}
	s.do(api.Event{Kind: alter, N: 1, At: 1, By: 1})
	s.do(api.Event{Kind: act, Node: hub})
	at := map[*byte]bool{}
	one, two := s.n.Flights(), s.n.Flights()
	for _, x := range slices.Concat(one, two) {
		p := unsafe.StringData(x.Bytes)
		if at[p] {
			t.Errorf("two share memory: %q", x.Bytes)
		}
		at[p] = true
	}
	wipe(one)
	if !slices.Equal(two, s.m.way) {
		t.Errorf("another answer became %s", shown(two))
	}
	s.check()
	for len(s.m.way) > 0 {
		wipe(s.n.Flights())
		s.do(api.Event{Kind: deliver, N: 1})
	}
	s.all()
}

// TestFlightsStay (R4): a list that was told is as it was, whatever happens.
func TestFlightsStay(t *testing.T) {
	s := begun(t, "stay", config())
	s.acts(0, 1, 2)
	var lists, copies [][]api.Flight
	for i := range 40 {
		l := s.n.Flights()
		c := slices.Clone(l)
		for j := range c {
			c[j].Bytes = strings.Clone(c[j].Bytes)
		}
		lists, copies = append(lists, l), append(copies, c)
		s.do(api.Event{Kind: []int{alter, double, act, lose, tick, deliver, crash, alter}[i%8], Node: i % count, N: i, At: i, By: i + 1})
	}
	for i := range lists {
		if !slices.Equal(lists[i], copies[i]) {
			t.Errorf("%d: %s became %s", i, shown(copies[i]), shown(lists[i]))
		}
	}
}

// TestReportHandedOut (R4): each Report's Object has memory of its own.
func TestReportHandedOut(t *testing.T) {
	n := made(t, with(func(c *api.Config) { c.Nodes[source].To = []int{sink} }))
	for i := range uint64(8) {
		done(t, n, api.Event{Kind: tick, N: 1}, api.Event{Kind: act, Draws: []uint64{0, i}}, api.Event{Kind: deliver})
	}
	one, two := n.Report(sink).Object, n.Report(sink).Object
	if one != "abcdefgh" || two != "abcdefgh" || unsafe.StringData(one) == unsafe.StringData(two) {
		t.Fatalf("%q and %q, or they share memory", one, two)
	}
	clear(unsafe.Slice(unsafe.StringData(one), len(one)))
	if got := n.Report(sink).Object; got != "abcdefgh" || two != "abcdefgh" {
		t.Errorf("%q, %q", got, two)
	}
}

// TestAgain (R5): the same events of another network give the same, whatever is asked between and whatever is done to others.
func TestAgain(t *testing.T) {
	r := rand.New(rand.NewPCG(26, 3))
	for range 60 {
		c := anyConfig(r)
		one, two, other := made(t, c), made(t, c), made(t, anyConfig(r))
		for range 200 {
			other.Do(anyEvent(r, len(c.Nodes), true))
			e := anyEvent(r, len(c.Nodes), true)
			a := one.Do(e)
			two.Flights()
			two.Report(r.IntN(8))
			net.Check(c)
			b := two.Do(e)
			if a != b || one.Now() != two.Now() || !slices.Equal(one.Flights(), two.Flights()) {
				t.Fatalf("%v: behind %v: %s and %s", c, e, shown(one.Flights()), shown(two.Flights()))
			}
			for id := range c.Nodes {
				if one.Report(id) != two.Report(id) {
					t.Fatalf("%v: behind %v: node %d tells %v and %v", c, e, id, one.Report(id), two.Report(id))
				}
			}
		}
	}
}

// TestSideBySide: networks of one config, and one of another, do not meet.
func TestSideBySide(t *testing.T) {
	r := rand.New(rand.NewPCG(26, 4))
	shared := config()
	l := []*subject{
		begun(t, "one", shared), begun(t, "again", shared),
		begun(t, "other", with(func(c *api.Config) { c.Queue, c.Buffer, c.Cache, c.Timeout, c.Rate = 2, 2, 1, 2, 0.5 })),
	}
	for range 1500 {
		l[r.IntN(len(l))].do(anyEvent(r, count, true))
		for _, other := range l {
			other.check()
		}
	}
	for _, s := range l {
		s.all()
	}
}
