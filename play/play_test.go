package play_test

import (
	"encoding/binary"
	"fmt"
	"hash/crc32"
	"math"
	"math/big"
	"math/rand/v2"
	"slices"
	"strings"
	"sync"
	"testing"
	"unsafe"

	"bucketline/api"
	"bucketline/frame"
	"bucketline/net"
	"bucketline/play"
	"bucketline/xor"
)

// The document's limits, by number.
const (
	maxK     = 128
	maxNodes = 8
	maxTick  = 1 << 20
	maxWay   = 512
)

// The kinds of events, by number.
const (
	tick    = 1
	act     = 2
	deliver = 3
	lose    = 4
	double  = 5
	alter   = 6
	crash   = 7
)

// The nodes of config.
const (
	source = 0
	near   = 1 // a relay
	hub    = 2 // a relay that sends to all others, not by rising numbers
	sink   = 3
	mute   = 4 // a sink that sends to none
	count  = 5
)

// config gives nodes of each kind, with To of none, of one, of some and of all others.
func config() api.Config {
	return api.Config{
		Nodes: []api.Node{
			{Kind: 1, To: []int{2, 1}},
			{Kind: 2, To: []int{3}},
			{Kind: 2, To: []int{4, 0, 3, 1}},
			{Kind: 3, To: []int{2}},
			{Kind: 3},
		},
		Object: "abcdefgh", Size: 1, Buffer: 8, Queue: 32, Cache: 4, Rate: 1, Timeout: 5, Target: 1,
	}
}

// with gives config, changed.
func with(change func(*api.Config)) api.Config {
	c := config()
	change(&c)
	return c
}

// odd are numbers at the ends of what an int may be, and such as are others once they are cut to fewer bits.
var odd = []int{
	math.MinInt, math.MinInt + 1, -1 << 62, -1 << 40, -1 << 32, -1<<32 + 1, -1 << 31, -1<<16 + 1, -257, -256, -255, -3, -2, -1,
	1<<8 + 1, 1<<16 + 1, 1 << 31, 1<<31 - 1, 1 << 32, 1<<32 + 1, 1<<32 + 3, 1 << 40, 1 << 62, math.MaxInt - 1, math.MaxInt,
}

// modulo is 0 or more, by numbers of any size.
func modulo(n, m int) int {
	return int(new(big.Int).Mod(big.NewInt(int64(n)), big.NewInt(int64(m))).Int64())
}

// sealed gives b and the library's sum of it.
func sealed(b []byte) string {
	return string(binary.BigEndian.AppendUint32(slices.Clone(b), crc32.ChecksumIEEE(b)))
}

// right tells whether the library's sum of s is the one that it has.
func right(s string) bool {
	cut := len(s) - 4
	return cut >= 0 && sealed([]byte(s[:cut])) == s
}

// hello gives the bytes of a frame without a packet.
func hello(from, inc int) string {
	return sealed(binary.BigEndian.AppendUint32([]byte{1, byte(from)}, uint32(inc)))
}

// block gives the bytes of a frame with the packet of one of config's eight blocks, come by so many relays.
func block(from, inc, hops, i int) string {
	b := binary.BigEndian.AppendUint32([]byte{2, byte(from)}, uint32(inc))
	b = append(b, 0, 0, 0, 0, 0, 0, 0, 8, 8, 1, byte(hops))
	b = binary.BigEndian.AppendUint64(b, 1<<i)
	return sealed(append(b, "abcdefgh"[i]))
}

// resealed gives s with byte i another one, and its sum right again.
func resealed(s string, i int, x byte) string {
	b := []byte(s[:len(s)-4])
	b[i] = x
	return sealed(b)
}

// flights gives one for each of to, all of the same bytes.
func flights(from int, text string, to ...int) []api.Flight {
	var out []api.Flight
	for _, x := range to {
		out = append(out, api.Flight{From: from, To: x, Bytes: text})
	}
	return out
}

// shown gives flights as a text that can be read.
func shown(l []api.Flight) string {
	var b strings.Builder
	for _, x := range l {
		fmt.Fprintf(&b, "[%d to %d: %q]", x.From, x.To, x.Bytes)
	}
	return fmt.Sprintf("%d, %.600s", len(l), b.String())
}

// script joins scripts.
func script(parts ...[]api.Event) []api.Event {
	return slices.Concat(parts...)
}

// times gives a script so many times.
func times(n int, parts ...[]api.Event) []api.Event {
	return slices.Repeat(script(parts...), n)
}

// acts lets the source send its blocks, by numbers: for each a frame to hub, and one to near.
func acts(blocks ...int) []api.Event {
	var out []api.Event
	for _, i := range blocks {
		out = append(out, api.Event{Kind: act, Node: source, Draws: []uint64{0, uint64(i)}})
	}
	return out
}

// greets lets the node sink, of which nothing but hellos comes, send one to hub.
func greets(n int) []api.Event {
	return slices.Repeat([]api.Event{{Kind: act, Node: sink}}, n)
}

// to gives an event of a kind for each of these frames.
func to(kind int, frames ...int) []api.Event {
	var out []api.Event
	for _, n := range frames {
		out = append(out, api.Event{Kind: kind, N: n})
	}
	return out
}

// flip alters byte at of frame n.
func flip(n, at, by int) []api.Event {
	return []api.Event{{Kind: alter, N: n, At: at, By: by}}
}

// turn alters frame n, byte by byte, from what it is into another one of as many.
func turn(n int, from, into string) []api.Event {
	var out []api.Event
	for i := range len(from) {
		if from[i] != into[i] {
			out = append(out, flip(n, i, int(from[i]^into[i]))...)
		}
	}
	return out
}

// model is a script that is played by package net, with what each frame under way was made as and is, by the chapter's words.
type model struct {
	t         *testing.T
	n         *net.Net
	made, now []string
	lossless  bool
	passing   int // how many alterations left a frame with a right sum
}

func modelled(t *testing.T, c api.Config, l []api.Event) *model {
	t.Helper()
	n, err := net.New(c)
	if err != api.OK {
		t.Fatalf("no network: %d", err)
	}
	m := &model{t: t, n: n, lossless: true}
	for _, e := range l {
		m.do(e)
	}
	m.look()
	return m
}

func (m *model) do(e api.Event) {
	m.t.Helper()
	i := 0
	if len(m.made) > 0 {
		i = modulo(e.N, len(m.made))
	}
	done := m.n.Do(e)
	switch {
	case !done:
	case e.Kind == deliver || e.Kind == lose:
		m.made = append(slices.Clone(m.made[:i]), m.made[i+1:]...)
		m.now = append(slices.Clone(m.now[:i]), m.now[i+1:]...)
	case e.Kind == double && len(m.made) < maxWay:
		m.made, m.now = append(m.made, m.made[i]), append(m.now, m.now[i])
	case e.Kind == alter:
		b := []byte(m.now[i])
		b[modulo(e.At, len(b))] ^= byte(modulo(e.By, 256))
		m.now[i] = string(b)
		if right(m.now[i]) {
			m.passing++
			m.lossless = m.lossless && m.now[i] == m.made[i]
		}
	}
	if done && (e.Kind == tick || e.Kind == act) {
		for _, x := range m.n.Flights()[len(m.made):] {
			m.made, m.now = append(m.made, x.Bytes), append(m.now, x.Bytes)
		}
		m.look()
	}
}

// look fails, unless the model has what package net has.
func (m *model) look() {
	m.t.Helper()
	way := m.n.Flights()
	for i, x := range way {
		if i >= len(m.now) || m.now[i] != x.Bytes {
			m.t.Fatalf("the model has %q, not %s", m.now, shown(way))
		}
	}
	if len(way) != len(m.made) {
		m.t.Fatalf("the model has %q, not %s", m.now, shown(way))
	}
}

// played fails, unless Play answers so.
func played(t *testing.T, name string, c api.Config, l []api.Event, want []api.Report) {
	t.Helper()
	if got, err := play.Play(c, l); !slices.Equal(got, want) || err != api.OK {
		t.Errorf("%s: Play is %v, %d, not %v", name, got, err, want)
	}
}

// flown fails, unless Flights answers so.
func flown(t *testing.T, name string, c api.Config, l []api.Event, want []api.Flight) {
	t.Helper()
	if got := play.Flights(c, l); !slices.Equal(got, want) {
		t.Errorf("%s: Flights are %s, not %s", name, shown(got), shown(want))
	}
}

// lossless fails, unless Lossless answers so.
func lossless(t *testing.T, name string, c api.Config, l []api.Event, want bool) {
	t.Helper()
	if got := play.Lossless(c, l); got != want {
		t.Errorf("%s: Lossless is %v", name, got)
	}
}

// held holds the three calls against the model, which it gives.
func held(t *testing.T, name string, c api.Config, l []api.Event) *model {
	t.Helper()
	m := modelled(t, c, l)
	var want []api.Report
	for id := range c.Nodes {
		want = append(want, m.n.Report(id))
	}
	played(t, name, c, l, want)
	flown(t, name, c, l, m.n.Flights())
	lossless(t, name, c, l, m.lossless)
	return m
}

// judged holds Lossless against what was worked out by hand, and all calls against the model.
func judged(t *testing.T, name string, l []api.Event, want bool) {
	t.Helper()
	lossless(t, name, config(), l, want)
	held(t, name, config(), l)
}

// TestLimits: the limits and kinds are those that the tests count by.
func TestLimits(t *testing.T) {
	if api.MaxK != maxK || api.MaxNodes != maxNodes || api.MaxTick != maxTick || api.MaxWay != maxWay {
		t.Error("another limit")
	}
	kinds := []int{api.EventTick, api.EventAct, api.EventDeliver, api.EventLose, api.EventDouble, api.EventAlter, api.EventCrash}
	if !slices.Equal(kinds, []int{tick, act, deliver, lose, double, alter, crash}) || api.NodeSource != 1 || api.NodeRelay != 2 || api.NodeSink != 3 {
		t.Error("another kind")
	}
}

// TestExample is the chapter's: a frame with one bit altered is Lossless; each bit of each byte, of frames with a packet and without, on its way and when it came.
func TestExample(t *testing.T) {
	for _, x := range []struct {
		name, text string
		begin      []api.Event
		flights    []api.Flight
	}{
		{"a packet", block(0, 0, 0, 5), acts(5), flights(source, block(0, 0, 0, 5), 2, 1)},
		{"a hello", hello(sink, 0), greets(1), flights(sink, hello(sink, 0), 2)},
	} {
		for at := range len(x.text) {
			for bit := range 8 {
				name := fmt.Sprintf("%s, bit %d of byte %d", x.name, bit, at)
				l := script(x.begin, flip(0, at, 1<<bit))
				lossless(t, name, config(), l, true)
				b := []byte(x.text)
				b[at] ^= 1 << bit
				want := slices.Clone(x.flights)
				want[0].Bytes = string(b)
				flown(t, name, config(), l, want)
				l = script(l, to(deliver, 0))
				lossless(t, name+", that came", config(), l, true)
				flown(t, name+", that came", config(), l, want[1:])
				played(t, name+", that came", config(), l, make([]api.Report, count))
			}
		}
	}
}

// scripts are some that are played of configs that are refused: none, short ones, one whose frames would pass.
func scripts() [][]api.Event {
	return [][]api.Event{
		nil,
		{},
		{{}},
		acts(0),
		script(acts(0, 1), to(deliver, 0, 0, 0), greets(2), to(double, 1), to(lose, 2), []api.Event{{Kind: tick, N: 5}, {Kind: crash, Node: 2}}),
		script(acts(5), turn(0, block(0, 0, 0, 5), block(0, 0, 0, 6))),
		script(greets(1), turn(0, hello(sink, 0), hello(sink, 5)), to(deliver, 0)),
		{{Kind: math.MinInt, Node: math.MaxInt, N: math.MinInt, At: math.MaxInt, By: math.MinInt, Draws: []uint64{math.MaxUint64}}},
	}
}

// refused fails, unless each call answers so beside New's error, whatever the script.
func refused(t *testing.T, name string, c api.Config, want api.Errno) {
	t.Helper()
	if n, err := net.New(c); n != nil || err != want {
		t.Fatalf("%s: New is %v, %d", name, n != nil, err)
	}
	for i, l := range scripts() {
		name := fmt.Sprintf("%s, script %d", name, i)
		if got, err := play.Play(c, l); len(got) != 0 || err != want {
			t.Errorf("%s: Play is %v, %d, not %d", name, got, err, want)
		}
		flown(t, name, c, l, nil)
		lossless(t, name, c, l, true)
	}
}

// wrongs gives each reason to be refused but the object's.
func wrongs() map[string]func(*api.Config) {
	out := map[string]func(*api.Config){
		"no node":            func(c *api.Config) { c.Nodes = nil },
		"nodes of no length": func(c *api.Config) { c.Nodes = []api.Node{} },
		"nine nodes":         func(c *api.Config) { c.Nodes = append(c.Nodes, slices.Repeat([]api.Node{{Kind: 2}}, 4)...) },
		"a thousand nodes":   func(c *api.Config) { c.Nodes = append(c.Nodes, slices.Repeat([]api.Node{{Kind: 2}}, 995)...) },
		"kind 0":             func(c *api.Config) { c.Nodes[mute].Kind = 0 },
		"kind 4":             func(c *api.Config) { c.Nodes[mute].Kind = 4 },
		"kind -1":            func(c *api.Config) { c.Nodes[near].Kind = -1 },
		"kind 2^32 + 2":      func(c *api.Config) { c.Nodes[near].Kind = 1<<32 + 2 },
		"no source":          func(c *api.Config) { c.Nodes[source].Kind = 2 },
		"two sources":        func(c *api.Config) { c.Nodes[mute].Kind = 1 },
		"five sources":       func(c *api.Config) { c.Nodes = slices.Repeat([]api.Node{{Kind: 1}}, count) },
		"To itself":          func(c *api.Config) { c.Nodes[mute].To = []int{mute} },
		"To none":            func(c *api.Config) { c.Nodes[mute].To = []int{count} },
		"To -1":              func(c *api.Config) { c.Nodes[source].To = []int{1, -1} },
		"To 2^32":            func(c *api.Config) { c.Nodes[near].To = []int{3, 1 << 32} },
		"To one twice":       func(c *api.Config) { c.Nodes[mute].To = []int{1, 2, 1} },
		"nothing at all":     func(c *api.Config) { *c = api.Config{Object: c.Object, Size: c.Size} },
	}
	for name, x := range map[string]struct {
		set         func(c *api.Config, x int)
		least, most int
	}{
		"Spread":  {func(c *api.Config, x int) { c.Spread = x }, 0, 128},
		"Buffer":  {func(c *api.Config, x int) { c.Buffer = x }, 1, 256},
		"Queue":   {func(c *api.Config, x int) { c.Queue = x }, 1, 256},
		"Cache":   {func(c *api.Config, x int) { c.Cache = x }, 0, 256},
		"Timeout": {func(c *api.Config, x int) { c.Timeout = x }, 0, 1048576},
		"Target":  {func(c *api.Config, x int) { c.Target = x }, 1, 128},
	} {
		for _, n := range []int{math.MinInt, -1 << 32, x.least - 1, x.most + 1, 1<<32 + 1, math.MaxInt} {
			out[fmt.Sprintf("%s %d", name, n)] = func(c *api.Config) { x.set(c, n) }
		}
	}
	return out
}

// objects are lengths and sizes that are refused, by hand.
var objects = []struct {
	length, size int
	err          api.Errno
}{
	{129, 1, api.ErrSize}, {130, 1, api.ErrSize}, {257, 2, api.ErrSize}, {8193, 64, api.ErrSize}, {1 << 20, 64, api.ErrSize},
	{0, 0, api.ErrArg}, {0, 65, api.ErrArg}, {0, -1, api.ErrArg}, {8, 0, api.ErrArg}, {8, 65, api.ErrArg}, {8, -1, api.ErrArg}, {8, 1<<32 + 1, api.ErrArg}, {8, math.MinInt, api.ErrArg}, {8, math.MaxInt, api.ErrArg},
	{129, 0, api.ErrArg}, {8321, 65, api.ErrArg}, {1 << 20, -1, api.ErrArg}, {1 << 20, math.MinInt, api.ErrArg},
}

// TestRefused: for each reason that New has, its error, no Reports, no Flights, and true; two reasons at once tell the lesser error.
func TestRefused(t *testing.T) {
	refused(t, "nothing", api.Config{}, api.ErrArg)
	for name, wrong := range wrongs() {
		refused(t, name, with(wrong), api.ErrArg)
		refused(t, name+", too many blocks", with(func(c *api.Config) { wrong(c); c.Object, c.Size = strings.Repeat("x", 129), 1 }), api.ErrArg)
	}
	for _, x := range objects {
		refused(t, fmt.Sprintf("%d bytes by %d", x.length, x.size), with(func(c *api.Config) { c.Object, c.Size = strings.Repeat("x", x.length), x.size }), x.err)
	}
}

// TestTaken: configs at the edges of what New takes.
func TestTaken(t *testing.T) {
	for name, c := range map[string]api.Config{
		"all the least": with(func(c *api.Config) {
			c.Object, c.Size, c.Spread, c.Buffer, c.Queue, c.Cache, c.Timeout, c.Target, c.Rate = "", 1, 0, 1, 1, 0, 0, 1, 0
		}),
		"all the greatest": with(func(c *api.Config) {
			c.Object, c.Size, c.Spread, c.Buffer, c.Queue, c.Cache, c.Timeout, c.Target, c.Rate = strings.Repeat("x", 8192), 64, 128, 256, 256, 256, 1048576, 128, 1000
		}),
		"no rate":          with(func(c *api.Config) { c.Rate = math.NaN() }),
		"an infinite rate": with(func(c *api.Config) { c.Rate = math.Inf(1) }),
		"128 blocks":       with(func(c *api.Config) { c.Object = strings.Repeat("x", 128) }),
		"eight nodes":      with(func(c *api.Config) { c.Nodes = append(c.Nodes, slices.Repeat([]api.Node{{Kind: 2}}, 3)...) }),
		"one node":         with(func(c *api.Config) { c.Nodes = []api.Node{{Kind: 1}} }),
	} {
		for i, l := range scripts() {
			held(t, fmt.Sprintf("%s, script %d", name, i), c, l)
		}
	}
}

// TestNoEvent: without events each node tells nothing, nothing is under way, and nothing was altered.
func TestNoEvent(t *testing.T) {
	for _, l := range [][]api.Event{nil, {}} {
		for many := 1; many <= maxNodes; many++ {
			for at := range many {
				name := fmt.Sprintf("%d nodes, the source is %d", many, at)
				c := config()
				c.Nodes = slices.Repeat([]api.Node{{Kind: 2 + many%2}}, many)
				c.Nodes[at].Kind = 1
				played(t, name, c, l, make([]api.Report, many))
				flown(t, name, c, l, nil)
				lossless(t, name, c, l, true)
			}
		}
	}
}

// TestOneEvent: of each kind, by hand.
func TestOneEvent(t *testing.T) {
	for name, x := range map[string]struct {
		e    api.Event
		way  []api.Flight
		inc  int // of near
		node int
	}{
		"a tick":                   {e: api.Event{Kind: tick, N: 3}},
		"a tick of 0":              {e: api.Event{Kind: tick}},
		"the source acts":          {e: acts(5)[0], way: flights(source, block(0, 0, 0, 5), 2, 1)},
		"the source, by great":     {e: api.Event{Kind: act, Draws: []uint64{1048575, math.MaxUint64, 3}}, way: flights(source, block(0, 0, 0, 7), 2, 1)},
		"a relay that has nothing": {e: api.Event{Kind: act, Node: hub, Draws: []uint64{1}}, way: flights(hub, hello(hub, 0), 4, 0, 3, 1)},
		"a sink acts":              {e: greets(1)[0], way: flights(sink, hello(sink, 0), 2)},
		"one that sends to none":   {e: api.Event{Kind: act, Node: mute}},
		"nothing to deliver":       {e: to(deliver, 0)[0]},
		"nothing to lose":          {e: to(lose, 0)[0]},
		"nothing to double":        {e: to(double, 0)[0]},
		"nothing to alter":         {e: flip(0, 1, 1)[0]},
		"a crash":                  {e: api.Event{Kind: crash, Node: near}, inc: 1},
		"a crash of none":          {e: api.Event{Kind: crash, Node: count}},
		"an act of none":           {e: api.Event{Kind: act, Node: -1}},
		"no kind":                  {e: api.Event{}},
		"another kind":             {e: api.Event{Kind: 8, Node: near, Draws: []uint64{0, 1}}},
	} {
		l := []api.Event{x.e}
		reports := make([]api.Report, count)
		reports[near].Inc = x.inc
		played(t, name, config(), l, reports)
		flown(t, name, config(), l, x.way)
		lossless(t, name, config(), l, true)
	}
}

// TestReports: of all nodes, in order, each another one, behind each of many events; by hand.
func TestReports(t *testing.T) {
	c := with(func(c *api.Config) { c.Queue = 2 })
	full := api.Report{Kept: 8, Rank: 8, Known: 1, Done: true, Object: "abcdefgh"}
	var l []api.Event
	step := func(name string, want []api.Report, e ...api.Event) {
		t.Helper()
		l = append(l, e...)
		played(t, name, c, l, want)
		lossless(t, name, c, l, true)
	}
	step("the source sends two", []api.Report{{}, {}, {}, {}, {}}, acts(4, 6)...)
	step("the third waits on both links", []api.Report{{Queued: 2}, {}, {}, {}, {}}, acts(1)...)
	step("the first came to near", []api.Report{{Queued: 2}, {Kept: 1, Rank: 1, Known: 1}, {}, {}, {}}, to(deliver, 1)...)
	step("both came to hub", []api.Report{{Queued: 2}, {Kept: 1, Rank: 1, Known: 1}, {Kept: 2, Rank: 2, Known: 1}, {}, {}}, to(deliver, 0, 0)...)
	step("hub sends", []api.Report{{Queued: 2}, {Kept: 1, Rank: 1, Known: 1}, {Kept: 2, Rank: 2, Known: 1}, {}, {}}, api.Event{Kind: act, Node: hub, Draws: []uint64{1}})
	step("it came to mute", []api.Report{{Queued: 2}, {Kept: 1, Rank: 1, Known: 1}, {Kept: 2, Rank: 2, Known: 1}, {}, {Kept: 1, Rank: 1, Known: 1}}, to(deliver, 1)...)
	step("and to the source", []api.Report{{Queued: 2, Known: 1}, {Kept: 1, Rank: 1, Known: 1}, {Kept: 2, Rank: 2, Known: 1}, {}, {Kept: 1, Rank: 1, Known: 1}}, to(deliver, 1)...)
	flown(t, "three are under way", c, l, slices.Concat(flights(source, block(0, 0, 0, 6), 1), flights(hub, block(hub, 0, 1, 6), 3, 1)))
	step("near knows both", []api.Report{{Queued: 2, Known: 1}, {Kept: 2, Rank: 2, Known: 2}, {Kept: 2, Rank: 2, Known: 1}, {}, {Kept: 1, Rank: 1, Known: 1}}, to(deliver, 2)...)
	step("sink greets hub", []api.Report{{Queued: 2, Known: 1}, {Kept: 2, Rank: 2, Known: 2}, {Kept: 2, Rank: 2, Known: 2}, {}, {Kept: 1, Rank: 1, Known: 1}}, script(greets(1), to(deliver, -1))...)
	step("mute crashes, near twice", []api.Report{{Queued: 2, Known: 1}, {Inc: 2}, {Kept: 2, Rank: 2, Known: 2}, {}, {Inc: 1}}, api.Event{Kind: crash, Node: mute}, api.Event{Kind: crash, Node: near}, api.Event{Kind: crash, Node: near})
	step("a tick", []api.Report{{Known: 1}, {Inc: 2}, {Kept: 2, Rank: 2, Known: 2}, {}, {Inc: 1}}, api.Event{Kind: tick, N: 1})
	step("too late", []api.Report{{}, {Inc: 2}, {Kept: 2, Rank: 2}, {}, {Inc: 1}}, api.Event{Kind: tick, N: 5})
	step("all is lost", []api.Report{{}, {Inc: 2}, {Kept: 2, Rank: 2}, {}, {Inc: 1}}, to(lose, 0, 0, 0, 0)...)
	flown(t, "all is lost", c, l, nil)
	for i := range 8 {
		l = append(l, script([]api.Event{{Kind: tick, N: 1}}, acts(i), to(lose, 0), to(deliver, 0), []api.Event{{Kind: act, Node: near, Draws: []uint64{uint64(i)}}}, to(deliver, 0))...)
	}
	step("sink has all", []api.Report{{}, {Inc: 2, Kept: 8, Rank: 8, Known: 1}, {Kept: 2, Rank: 2}, full, {Inc: 1}})
	step("nothing to be done", []api.Report{{}, {Inc: 2, Kept: 8, Rank: 8, Known: 1}, {Kept: 2, Rank: 2}, full, {Inc: 1}}, api.Event{}, api.Event{Kind: act, Node: 9}, api.Event{Kind: deliver})
	step("it crashes", []api.Report{{}, {Inc: 2, Kept: 8, Rank: 8, Known: 1}, {Kept: 2, Rank: 2}, {Inc: 1}, {Inc: 1}}, api.Event{Kind: crash, Node: sink})
	// Of each beginning of the script, too.
	for i := range l {
		held(t, fmt.Sprintf("the first %d", i), c, l[:i])
	}
}

// TestFlights: what is under way behind all events: none, one, several, in the order in which they came; by hand.
func TestFlights(t *testing.T) {
	var l []api.Event
	step := func(name string, want []api.Flight, e ...api.Event) {
		t.Helper()
		l = append(l, e...)
		flown(t, name, config(), l, want)
		held(t, name, config(), l)
	}
	step("none", nil, api.Event{Kind: tick, N: 9})
	step("one", flights(sink, hello(sink, 0), hub), greets(1)...)
	step("three", slices.Concat(flights(sink, hello(sink, 0), hub), flights(source, block(0, 0, 0, 3), hub, near)), acts(3)...)
	step("doubled", slices.Concat(flights(sink, hello(sink, 0), hub), flights(source, block(0, 0, 0, 3), hub, near), flights(sink, hello(sink, 0), hub)), to(double, 0)...)
	step("the second went", slices.Concat(flights(sink, hello(sink, 0), hub), flights(source, block(0, 0, 0, 3), near), flights(sink, hello(sink, 0), hub)), to(deliver, 1)...)
	step("the last is lost", slices.Concat(flights(sink, hello(sink, 0), hub), flights(source, block(0, 0, 0, 3), near)), to(lose, -1)...)
	step("turned", slices.Concat(flights(sink, hello(sink, 7), hub), flights(source, block(0, 0, 0, 3), near)), turn(0, hello(sink, 0), hello(sink, 7))...)
	step("a crash leaves it", slices.Concat(flights(sink, hello(sink, 7), hub), flights(source, block(0, 0, 0, 3), near)), api.Event{Kind: crash, Node: sink}, api.Event{Kind: crash, Node: source})
	step("the next incarnation", slices.Concat(flights(sink, hello(sink, 7), hub), flights(source, block(0, 0, 0, 3), near), flights(sink, hello(sink, 1), hub), flights(source, block(0, 1, 0, 2), hub, near)), script(greets(1), acts(2))...)
	step("none again", nil, to(deliver, 4, 3, 2, 1, 0)...)
	step("none for long", nil, api.Event{Kind: tick, N: maxTick}, api.Event{Kind: act, Node: mute})
}

// fill brings so many under way, 16 or more: the source's of each block, then doubles in no simple order.
func fill(many int) []api.Event {
	l := acts(0, 1, 2, 3, 4, 5, 6, 7)
	for i := 16; i < many; i++ {
		l = append(l, to(double, i/3)...)
	}
	return l
}

// TestWay: at most MaxWay are under way, and what comes beyond it is lost.
func TestWay(t *testing.T) {
	for many := maxWay - 3; many <= maxWay; many++ {
		name := fmt.Sprintf("%d under way", many)
		l := fill(many)
		want := held(t, name, config(), l).n.Flights()
		if len(want) != many {
			t.Fatalf("%s: there are %d", name, len(want))
		}
		acted := append(slices.Clip(want), flights(hub, hello(hub, 0), 4, 0, 3, 1)[:min(4, maxWay-many)]...)
		flown(t, name+", hub acts", config(), script(l, []api.Event{{Kind: act, Node: hub}}), acted)
		doubled := want
		for i := range 3 {
			if len(doubled) < maxWay {
				doubled = append(slices.Clip(doubled), doubled[5+i])
			}
			flown(t, fmt.Sprintf("%s, %d doubled", name, i+1), config(), script(l, to(double, 5, 6, 7)[:i+1]), doubled)
		}
	}
}

// thereAndBack gives a script that alters each of so many frames there and back.
func thereAndBack(many int) []api.Event {
	var out []api.Event
	for i := range many {
		out = append(out, flip(i, 3*i, i%255+1)...)
	}
	for i := range many {
		out = append(out, flip(i, 3*i, i%255+1)...)
	}
	return out
}

// TestWayLossless: which frame is which stays known, whatever comes beyond MaxWay and whatever goes.
func TestWayLossless(t *testing.T) {
	for name, events := range map[string][]api.Event{
		"nothing":             nil,
		"doubles":             to(double, 1, 2, 3, -1, 0, 511),
		"acts":                script(acts(4, 5), []api.Event{{Kind: act, Node: hub}, {Kind: tick, N: 3}}),
		"room for one":        script(to(lose, 3), []api.Event{{Kind: act, Node: hub}}),
		"room for two":        script(to(lose, 3), to(deliver, 9), []api.Event{{Kind: act, Node: hub}}, to(double, 7)),
		"doubles, then room":  script(to(double, 1, 2), to(lose, 0, 1), to(double, 0, 5, 6), greets(1), to(deliver, -3)),
		"much goes":           script(to(double, 0, 2), times(300, to(lose, 2), to(deliver, 5), to(double, 1, 1)), acts(7)),
		"all goes, and comes": script(to(double, 4), times(maxWay, to(lose, 1)), acts(6, 7), to(double, 2, 2)),
	} {
		begin := script(fill(maxWay), events)
		many := len(modelled(t, config(), begin).made)
		for _, l := range [][]api.Event{begin, script(begin, thereAndBack(many))} {
			lossless(t, name, config(), l, true)
		}
		held(t, name, config(), script(begin, thereAndBack(many)))
		for _, n := range []int{0, 1, many / 2, many - 2, many - 1, -1, many, 3*many + 2} {
			is := modelled(t, config(), begin).now[modulo(n, many)]
			into := resealed(is, 5, 9)
			l := script(begin, turn(n, is, into))
			lossless(t, fmt.Sprintf("%s, %d is turned", name, n), config(), l, false)
			lossless(t, fmt.Sprintf("%s, %d is nearly turned", name, n), config(), l[:len(l)-1], true)
		}
	}
}

// TestUnaltered: without an EventAlter a script is Lossless, whatever else happens.
func TestUnaltered(t *testing.T) {
	judged(t, "acts", acts(0, 1, 2), true)
	judged(t, "all kinds but one", script(acts(0, 1), to(double, 0, 1, -1), to(lose, 2), greets(2), to(deliver, 0, 0, 3), []api.Event{{Kind: tick, N: 4}, {Kind: crash, Node: hub}, {Kind: act, Node: near}}, to(deliver, 0)), true)
	judged(t, "nothing to alter", script(flip(0, 5, 1), greets(1), to(lose, 0), flip(0, 5, 1), []api.Event{{Kind: tick, N: 1}}, flip(-1, 2, 3)), true)
	judged(t, "bits of other events", []api.Event{acts(3)[0], {Kind: double, At: 5, By: 1}, {Kind: tick, At: 5, By: 1}, {Kind: act, Node: sink, At: 5, By: 1}, {Kind: lose, At: 5, By: 1}, {Kind: deliver, At: 5, By: 1}, {Kind: crash, At: 5, By: 1}, {Kind: 7 + alter, At: 5, By: 1}}, true)
}

// TestOneByte: one event can't leave another frame that passes; each byte, by each number.
func TestOneByte(t *testing.T) {
	for _, x := range []struct {
		begin  []api.Event
		length int
	}{{acts(5), 30}, {greets(1), 10}} {
		for at := range x.length {
			for by := range 256 {
				lossless(t, fmt.Sprintf("byte %d by %d", at, by), config(), script(x.begin, flip(0, at, by)), true)
			}
			for _, by := range odd {
				judged(t, fmt.Sprintf("byte %d by %d", at, by), script(x.begin, flip(0, at, by)), true)
			}
		}
		for _, at := range odd {
			judged(t, fmt.Sprintf("byte %d", at), script(x.begin, flip(0, at, 1)), true)
		}
	}
}

// TestBack: one that is altered back is as it was made.
func TestBack(t *testing.T) {
	for name, l := range map[string][]api.Event{
		"by nothing":                 script(flip(0, 5, 0)),
		"by nothing of 8 bits":       script(flip(0, 5, 256), flip(0, 6, -256), flip(0, 7, math.MinInt), flip(0, 8, 1<<32)),
		"by one":                     script(flip(0, 5, 77), flip(0, 5, 77)),
		"by one of other bits":       script(flip(0, 5, 1), flip(0, 5, 257), flip(0, 9, -1), flip(0, 9, 255), flip(0, 9, 3), flip(0, 9, -253)),
		"by one, counted otherwise":  script(flip(0, 5, 1), flip(0, 35, 1), flip(2, 29, 4), flip(-2, -1, 4)),
		"by three":                   script(flip(0, 5, 1), flip(0, 5, 2), flip(0, 5, 3)),
		"by seven":                   script(flip(0, 28, 1), flip(0, 28, 2), flip(0, 28, 4), flip(0, 28, 8), flip(0, 28, 16), flip(0, 28, 32), flip(0, 28, 63)),
		"four times":                 times(4, flip(0, 5, 9)),
		"in another order":           script(flip(0, 0, 1), flip(0, 12, 2), flip(0, 29, 3), flip(0, 12, 2), flip(0, 0, 1), flip(0, 29, 3)),
		"each byte":                  script(turn(0, block(0, 0, 0, 5), strings.Repeat("\xff", 30)), turn(0, strings.Repeat("\xff", 30), block(0, 0, 0, 5))),
		"the sum":                    script(flip(0, 26, 1), flip(0, 27, 2), flip(0, 28, 3), flip(0, 29, 4), flip(0, 29, 4), flip(0, 28, 3), flip(0, 27, 2), flip(0, 26, 1)),
		"two frames by turns":        script(flip(0, 3, 4), flip(1, 5, 6), flip(0, 3, 4), flip(1, 5, 6)),
		"with other things between":  script(flip(0, 3, 4), []api.Event{{Kind: tick, N: 4}}, greets(1), []api.Event{{Kind: crash}}, flip(0, 3, 4)),
		"behind one that went":       script(flip(1, 3, 4), to(lose, 0), flip(0, 3, 4)),
		"behind one that came":       script(flip(1, 3, 4), to(deliver, 0), flip(0, 3, 4)),
		"ahead of one that went":     script(flip(0, 3, 4), to(lose, 1), flip(0, 3, 4)),
		"by nothing, and lost":       script(flip(0, 5, 0), to(lose, 0)),
		"by one, and delivered":      script(flip(0, 5, 8), flip(0, 5, 8), to(deliver, 0)),
		"there, and lost":            script(flip(0, 5, 8), to(lose, 0)),
		"there, and delivered":       script(flip(0, 5, 8), to(deliver, 0)),
		"there, delivered, and back": script(flip(0, 5, 8), to(deliver, 0), flip(0, 5, 8)),
	} {
		judged(t, name, script(acts(5), l), true)
		judged(t, name+", among others", script(acts(5), greets(1), acts(2), l), true)
	}
}

// TestBytes: alterations, several, that leave another frame with a right sum; all bytes are worked out by hand.
func TestBytes(t *testing.T) {
	// A hello of node 3 becomes one of its incarnation 5.
	l := script(greets(1), flip(0, 5, 0x05), flip(0, 6, 0x70), flip(0, 7, 0x6a), flip(0, 8, 0xf4), flip(0, 9, 0x8f))
	flown(t, "made", config(), l[:1], flights(3, "\x01\x03\x00\x00\x00\x00\x3d\x3e\x08\xd6", 2))
	flown(t, "turned", config(), l, flights(3, "\x01\x03\x00\x00\x00\x05\x4d\x54\xfc\x59", 2))
	judged(t, "an incarnation", l, false)
	// The bits of the sum's own 0xEDB88320, behind one bit more, leave each sum as it is, wherever they stand ahead of it.
	for _, x := range []struct {
		begin []api.Event
		last  int
	}{{greets(1), 1}, {acts(5), 21}} {
		for at := range x.last + 1 {
			l := script(x.begin, flip(0, at, 0x41), flip(0, at+1, 0x06), flip(0, at+2, 0x71), flip(0, at+3, 0xdb), flip(0, at+4, 0x01))
			judged(t, fmt.Sprintf("from byte %d on", at), l, false)
			for i := range 5 {
				some := slices.Delete(slices.Clone(l), len(x.begin)+i, len(x.begin)+i+1)
				judged(t, fmt.Sprintf("from byte %d on, but not byte %d", at, at+i), some, true)
				l[len(x.begin)+i].By ^= 1
				judged(t, fmt.Sprintf("from byte %d on, another byte %d", at, at+i), l, true)
				l[len(x.begin)+i].By ^= 1
			}
		}
	}
	// Three bytes of a frame of 30 are enough; it is none that is received.
	three := script(flip(0, 0, 140), flip(0, 7, 157), flip(0, 26, 147))
	for _, order := range [][]int{{0, 1, 2}, {0, 2, 1}, {1, 0, 2}, {1, 2, 0}, {2, 0, 1}, {2, 1, 0}} {
		l := acts(5)
		for _, i := range order {
			judged(t, fmt.Sprint(order), l, true)
			l = append(l, three[i])
		}
		judged(t, fmt.Sprint(order), l, false)
		played(t, fmt.Sprint(order), config(), append(l, to(deliver, 0)...), make([]api.Report, count))
	}
}

// others are frames that the source's of block 5 can be turned into: their sums are right, whether they are received or not.
func others() map[string]string {
	is := block(0, 0, 0, 5)
	return map[string]string{
		"another block":       block(0, 0, 0, 6),
		"another node":        block(4, 0, 0, 5),
		"another incarnation": block(0, 1, 0, 5),
		"another way":         block(0, 0, 1, 5),
		"another byte of it":  resealed(is, 25, 'x'),
		"another object":      resealed(is, 9, 1),
		"no kind":             resealed(is, 0, 3),
		"a hello too long":    resealed(is, 0, 1),
		"no node":             resealed(is, 1, 8),
		"too far":             resealed(is, 16, 16),
		"no bit":              resealed(is, 24, 0),
		"too many bits":       resealed(is, 17, 1),
		"all 0":               sealed(make([]byte, 26)),
	}
}

// TestTurned: each of them, in whatever order its bytes are altered, whatever becomes of it; but not as long as one byte is missing.
func TestTurned(t *testing.T) {
	r := rand.New(rand.NewPCG(27, 1))
	is := block(0, 0, 0, 5)
	for name, into := range others() {
		l := turn(0, is, into)
		for order := range 4 {
			name := fmt.Sprintf("%s, order %d", name, order)
			judged(t, name, script(acts(5), l), false)
			judged(t, name+", but the last", script(acts(5), l[:len(l)-1]), true)
			judged(t, name+", but the first", script(acts(5), l[1:]), true)
			judged(t, name+", the last otherwise", script(acts(5), l[:len(l)-1], flip(0, l[len(l)-1].At, l[len(l)-1].By^128)), true)
			r.Shuffle(len(l), func(i, j int) { l[i], l[j] = l[j], l[i] })
		}
		back := turn(0, into, is)
		for then, e := range map[string][]api.Event{
			"lost":                        to(lose, 0),
			"delivered":                   to(deliver, 0),
			"doubled":                     to(double, 0),
			"doubled, and both delivered": script(to(double, 0), to(deliver, 0, -1)),
			"altered":                     flip(0, 3, 1),
			"altered by nothing":          flip(0, 3, 0),
			"back":                        back,
			"back, and delivered":         script(back, to(deliver, 0)),
			"back, and there":             script(back, l),
			"all gone":                    to(lose, 0, 0),
			"all crashed":                 {{Kind: crash}, {Kind: crash, Node: 1}, {Kind: crash, Node: 2}, {Kind: crash, Node: 3}, {Kind: crash, Node: 4}},
			"long ago":                    script(to(deliver, 0, 0), times(20, acts(1), to(deliver, 0, 0), []api.Event{{Kind: tick, N: 2}})),
		} {
			judged(t, name+", and then "+then, script(acts(5), l, e), false)
		}
		for ahead, e := range map[string][]api.Event{
			"lost":      to(lose, 0),
			"delivered": to(deliver, 0),
		} {
			// The next one, that was made as the same, is altered by what was missing.
			judged(t, name+", but ahead of the last "+ahead, script(acts(5), l[:len(l)-1], e, l[len(l)-1:]), true)
			judged(t, name+", ahead "+ahead, script(acts(5), e, l), false)
		}
	}
}

// TestTurnedBetween: what happens between the alterations makes no difference, as long as they are of that frame.
func TestTurnedBetween(t *testing.T) {
	is, into := block(0, 0, 0, 5), block(0, 0, 0, 6)
	l := turn(0, is, into)
	moved := func(n int) []api.Event {
		out := slices.Clone(l)
		for i := range out {
			out[i].N = n
		}
		return out
	}
	for cut := range len(l) + 1 {
		for name, x := range map[string]struct {
			between []api.Event
			n       int // where the frame is then
			want    bool
		}{
			"nothing":            {nil, 0, false},
			"a tick":             {[]api.Event{{Kind: tick, N: 100}}, 0, false},
			"acts":               {script(acts(6, 5), greets(3)), 0, false},
			"crashes":            {[]api.Event{{Kind: crash}, {Kind: crash, Node: 2}}, 0, false},
			"no events":          {[]api.Event{{}, {Kind: 8}, {Kind: act, Node: 7}, {Kind: crash, Node: -1}}, 0, false},
			"doubles":            {to(double, 0, 1, 2), 0, false},
			"another is altered": {flip(1, 5, 1), 0, false},
			"another is lost":    {to(lose, 1), 0, false},
			"another came":       {to(deliver, 1), 0, false},
			"counted around":     {nil, 2, false},
			"counted back":       {nil, -2, false},
			"counted from far":   {nil, math.MinInt, false},
			"its double":         {to(double, 0), 2, false},
			"its double's":       {to(double, 0, 2), -1, false},
			"its double alone":   {script(to(double, 0), to(lose, 0, 0)), 0, false},
			"another one":        {nil, 1, cut > 0 && cut < len(l)},
			"another's double":   {to(double, 1), -1, cut > 0 && cut < len(l)},
			"another, its like":  {acts(5), -1, cut > 0 && cut < len(l)},
		} {
			judged(t, fmt.Sprintf("behind %d: %s", cut, name), script(acts(5), l[:cut], x.between, moved(x.n)[cut:]), x.want)
		}
	}
}

// TestDoubled: a frame that was doubled was made as the one it comes from, ahead of what altered that one and behind it.
func TestDoubled(t *testing.T) {
	is, into := hello(sink, 0), hello(sink, 5)
	there, back := turn(0, is, into), turn(0, into, is)
	at := func(n int, l []api.Event) []api.Event {
		out := slices.Clone(l)
		for i := range out {
			out[i].N = n
		}
		return out
	}
	half := len(there) / 2
	for name, x := range map[string]struct {
		l    []api.Event
		want bool
	}{
		"doubled":                                 {to(double, 0, 0, 1), true},
		"then it is altered":                      {script(to(double, 0), flip(0, 5, 1)), true},
		"then it is altered and back":             {script(to(double, 0), flip(0, 5, 1), flip(0, 5, 1)), true},
		"then the double is altered":              {script(to(double, 0), flip(1, 5, 1)), true},
		"then the double is altered and back":     {script(to(double, 0), flip(1, 5, 1), flip(1, 5, 1)), true},
		"then it is turned":                       {script(to(double, 0), there), false},
		"then the double is turned":               {script(to(double, 0), at(1, there)), false},
		"then each half":                          {script(to(double, 0), there[:half], at(1, there[half:])), true},
		"then each half, and it the rest":         {script(to(double, 0), there[:half], at(1, there[half:]), there[half:]), false},
		"then each half, and the double the rest": {script(to(double, 0), there[:half], at(1, there[half:]), at(1, there[:half])), false},
		"altered, then the double back":           {script(flip(0, 5, 1), to(double, 0), flip(1, 5, 1)), true},
		"altered, then both back":                 {script(flip(0, 5, 1), to(double, 0), flip(1, 5, 1), flip(0, 5, 1)), true},
		"altered, then both back, it first":       {script(flip(0, 5, 1), to(double, 0), flip(0, 5, 1), flip(1, 5, 1)), true},
		"altered, then it is lost, then back":     {script(flip(0, 5, 1), to(double, 0), to(lose, 0), flip(0, 5, 1)), true},
		"altered, then it came, then back":        {script(flip(0, 5, 1), to(double, 0), to(deliver, 0), flip(0, 5, 1)), true},
		"altered, doubled twice, then all back":   {script(flip(0, 5, 1), to(double, 0, 1), flip(2, 5, 1), flip(1, 5, 1), flip(0, 5, 1)), true},
		"half, then the double the rest":          {script(there[:half], to(double, 0), at(1, there[half:])), false},
		"half, then it the rest":                  {script(there[:half], to(double, 0), there[half:]), false},
		"half, then the double's the rest":        {script(there[:half], to(double, 0, 1), at(2, there[half:])), false},
		"half, then lost, the double the rest":    {script(there[:half], to(double, 0), to(lose, 0), there[half:]), false},
		"half, then the double half back":         {script(there[:half], to(double, 0), at(1, there[:half])), true},
		"half, then other halves":                 {script(there[:half], to(double, 0), there[:half], at(1, there[:half]), there[half:]), true},
		"all but one, each in part":               {script(there[:half], to(double, 0), there[half:len(there)-1], at(1, there[half+1:])), true},
		"turned, then doubled":                    {script(there, to(double, 0)), false},
		"turned, then both back":                  {script(there, to(double, 0), back, at(1, back)), false},
		"turned, then the double back, both came": {script(there, to(double, 0), at(1, back), to(deliver, 0, 0)), false},
		"altered and doubled, by nothing":         {script(flip(0, 5, 1), to(double, 0), flip(1, 5, 0), flip(0, 5, 256)), true},
	} {
		judged(t, name, script(greets(1), x.l), x.want)
		// Ahead of them stands another one, that goes first or stays.
		judged(t, name+", behind one that went", script(acts(3), to(lose, 0), greets(1), to(deliver, 0), x.l), x.want)
		moved := slices.Clone(x.l)
		for i := range moved {
			moved[i].N += 2
		}
		judged(t, name+", behind others", script(acts(3), greets(1), moved), x.want)
	}
}

// TestAnothers: a frame that is turned into what others under way were made as is another one than it was made as.
func TestAnothers(t *testing.T) {
	five, six := block(0, 0, 0, 5), block(0, 0, 0, 6)
	for name, l := range map[string][]api.Event{
		"the other is there":        script(acts(5, 6), turn(0, five, six)),
		"the other was there":       script(acts(6, 5), to(lose, 0, 0), turn(0, five, six)),
		"the other came":            script(acts(6, 5), to(deliver, 0, 0), turn(1, five, six)),
		"the other comes":           script(acts(5), turn(0, five, six), acts(6)),
		"the other waits":           script(acts(5), []api.Event{{Kind: crash}}, acts(6), turn(1, five, six)),
		"the other was altered":     script(acts(5, 6), flip(2, 3, 3), turn(0, five, six)),
		"each into the other":       script(acts(5, 6), turn(0, five, six), turn(2, six, five)),
		"its doubles, half by half": script(acts(5, 6), to(double, 0, 2), turn(0, five, six)[:3], turn(-2, five, six)),
	} {
		judged(t, name, l, false)
	}
	// What one lacks of another's bytes, the other has.
	l := turn(0, five, six)
	judged(t, "each half into the other", script(acts(5, 6), l[:3], turn(2, six, five)[3:]), true)
}

// TestShifted: which frame is which stays known as others come and go: of four that are not alike, each goes, while each is altered there and back, or turned.
func TestShifted(t *testing.T) {
	begin := script(acts(5), to(lose, 0), greets(1), acts(2), to(lose, -1), []api.Event{{Kind: act, Node: near}})
	is := []string{block(0, 0, 0, 5), hello(sink, 0), block(0, 0, 0, 2), hello(near, 0)}
	m := modelled(t, config(), begin)
	if !slices.Equal(m.now, is) {
		t.Fatalf("there are %q", m.now)
	}
	for gone := range is {
		for at := range is {
			if at == gone {
				continue
			}
			then := at
			if gone < at {
				then--
			}
			for _, kind := range []int{deliver, lose} {
				for turns := -1; turns <= 1; turns++ {
					name := fmt.Sprintf("%d goes by %d, %d is altered", gone, kind, at)
					judged(t, name+" and back", script(begin, flip(at+4*turns, 4, 9), to(kind, gone+4*turns), flip(then+3*turns, 4, 9)), true)
					there := turn(at+4*turns, is[at], resealed(is[at], 4, 9))
					late := turn(then+3*turns, is[at], resealed(is[at], 4, 9))
					judged(t, name+" into another", script(begin, there[:2], to(kind, gone+4*turns), late[2:]), false)
					judged(t, name+", then another one", script(begin, there[:2], to(kind, gone+4*turns), turn(then+1+3*turns, is[at], resealed(is[at], 4, 9))[2:]), true)
				}
			}
		}
	}
}

// TestMade: what is made later, and goes by a tick or an act, was made as it is then.
func TestMade(t *testing.T) {
	c := with(func(c *api.Config) { c.Queue = 2 })
	is, into := block(0, 0, 0, 6), block(0, 0, 0, 4)
	begin := acts(1, 2, 6, 3) // two tokens on each link: two wait
	for name, x := range map[string]struct {
		l []api.Event
		n int
	}{
		"by a tick":       {script(begin, []api.Event{{Kind: tick, N: 1}}), 4},
		"by a long tick":  {script(begin, []api.Event{{Kind: tick, N: maxTick}}), 4},
		"by a later one":  {script(begin, flip(0, 3, 3), to(lose, 0, 0, 0), []api.Event{{Kind: tick}, {Kind: tick, N: 1}}), 1},
		"behind a crash":  {script(acts(1, 2), []api.Event{{Kind: crash}, {Kind: crash}}, flip(2, 4, 4), acts(6)), 4},
		"of an act":       {script(acts(6)), 0},
		"of none alike":   {script(greets(2), to(deliver, 0), acts(6)), 1},
		"of a later one":  {script(acts(1), flip(0, 1, 1), flip(0, 1, 1), []api.Event{{Kind: act, Node: hub}}, acts(6)), -1},
		"of many":         {script(times(40, acts(1), []api.Event{{Kind: tick, N: 2}}), acts(6)), -2},
		"by a tick of -1": {script(begin, []api.Event{{Kind: tick, N: -1}, {Kind: tick, N: 1}}), -1},
	} {
		m := held(t, name, c, x.l)
		is, into := is, into
		if name == "behind a crash" {
			is, into = block(0, 2, 0, 6), block(0, 2, 0, 4)
		}
		if got := m.now[modulo(x.n, len(m.now))]; got != is {
			t.Fatalf("%s: %q is there", name, got)
		}
		l := turn(x.n, is, into)
		for cut := range l {
			lossless(t, fmt.Sprintf("%s, %d of them", name, cut), c, script(x.l, l[:cut]), true)
			lossless(t, fmt.Sprintf("%s, %d there and back", name, cut), c, script(x.l, l[:cut], l[:cut]), true)
		}
		lossless(t, name, c, script(x.l, l), false)
		held(t, name, c, script(x.l, l, []api.Event{{Kind: tick, N: 1}}))
	}
}

// TestEachShortScript: all scripts of up to 5 events out of nine, behind an act; three of them leave another frame that passes.
func TestEachShortScript(t *testing.T) {
	c := api.Config{
		Nodes:  []api.Node{{Kind: 1, To: []int{1}}, {Kind: 3, To: []int{0}}},
		Object: "abcdefgh", Size: 1, Buffer: 2, Queue: 1, Cache: 1, Rate: 0.5, Timeout: 1, Target: 1,
	}
	events := script(
		flip(0, 0, 140), flip(0, 7, 157), flip(0, 26, 147), flip(-1, 26, 147),
		to(double, 0), to(deliver, 0), to(lose, -1),
		[]api.Event{{Kind: tick, N: 2}, {Kind: act, Draws: []uint64{0, 1}}},
	)
	const most = 5
	not := 0
	var grow func(list []api.Event)
	grow = func(list []api.Event) {
		if m := held(t, fmt.Sprint(list), c, list); !m.lossless {
			not++
		}
		if len(list) <= most && !t.Failed() {
			for _, e := range events {
				grow(append(slices.Clip(list), e))
			}
		}
	}
	grow(acts(5))
	if not < 100 {
		t.Errorf("only %d are not Lossless", not)
	}
}

// anyConfig gives a config that is a network.
func anyConfig(r *rand.Rand) api.Config {
	n := 1 + r.IntN(8)
	c := api.Config{
		Nodes: make([]api.Node, n), Object: strings.Repeat("abcdefg", 1+r.IntN(2)), Size: 1 + r.IntN(3), Spread: r.IntN(6), Buffer: 1 + r.IntN(12), Queue: 1 + r.IntN(5),
		Cache: r.IntN(6), Rate: 2 * r.Float64(), Timeout: r.IntN(8), Target: 1 + r.IntN(4),
	}
	for i := range c.Nodes {
		c.Nodes[i].Kind = 2 + r.IntN(2)
		for _, to := range r.Perm(n)[:r.IntN(n+1)] {
			if to != i {
				c.Nodes[i].To = append(c.Nodes[i].To, to)
			}
		}
	}
	c.Nodes[r.IntN(n)].Kind = 1
	return c
}

// anyNumber gives mostly a small one.
func anyNumber(r *rand.Rand) int {
	switch r.IntN(20) {
	case 0:
		return odd[r.IntN(len(odd))]
	case 1:
		return int(r.Uint64())
	}
	return r.IntN(40) - 8
}

// anyEvent gives an event, mostly one that is done.
func anyEvent(r *rand.Rand, nodes int) api.Event {
	e := api.Event{Node: anyNumber(r), N: anyNumber(r), At: anyNumber(r), By: anyNumber(r), Draws: make([]uint64, r.IntN(7))}
	for i := range e.Draws {
		e.Draws[i] = r.Uint64() >> r.IntN(64)
	}
	if r.IntN(20) > 0 {
		e.Node = r.IntN(nodes)
	}
	switch x := r.IntN(100); {
	case x < 12:
		e.Kind = tick
		if r.IntN(10) > 0 {
			e.N = r.IntN(4)
		}
	case x < 48:
		e.Kind = act
	case x < 80:
		e.Kind = deliver
	case x < 84:
		e.Kind = lose
	case x < 93:
		e.Kind = double
	case x < 96:
		e.Kind = alter
	case x < 98:
		e.Kind = crash
	default:
		e.Kind = anyNumber(r)
	}
	return e
}

// anyTurn gives alterations of one frame that leave another one that passes, or would do so but for a small thing; between them are things that let it stand where it is.
func anyTurn(r *rand.Rand, nodes int) []api.Event {
	var l []api.Event
	n, at := r.IntN(12)-4, r.IntN(16)
	for i, by := range []int{0x41, 0x06, 0x71, 0xdb, 0x01} {
		l = append(l, flip(n, at+i, by+256*r.IntN(3))...)
	}
	r.Shuffle(len(l), func(i, j int) { l[i], l[j] = l[j], l[i] })
	switch r.IntN(12) {
	case 0, 1:
		l = l[1:]
	case 2:
		l[r.IntN(5)].By ^= 1 << r.IntN(9)
	case 3:
		l[r.IntN(5)].N++
	case 4:
		l[r.IntN(5)].At--
	case 5:
		l = script(l[:3], l[:3])
	case 6:
		l = script(l[:4], to(double, n), l[:2], l[2:4])
	}
	for range r.IntN(4) {
		e := api.Event{Kind: []int{tick, act, double, crash, 0}[r.IntN(5)], Node: r.IntN(nodes), N: r.IntN(3)}
		l = slices.Insert(l, r.IntN(len(l)+1), e)
	}
	return l
}

// anyScript gives about so many events.
func anyScript(r *rand.Rand, nodes, many int) []api.Event {
	var l []api.Event
	for len(l) < many {
		if r.IntN(25) == 0 {
			l = append(l, anyTurn(r, nodes)...)
		}
		l = append(l, anyEvent(r, nodes))
	}
	return l
}

// TestAny: scripts as chance has them, and beginnings of them.
func TestAny(t *testing.T) {
	r := rand.New(rand.NewPCG(27, 2))
	var not, turned int
	for i := range 1500 {
		c := anyConfig(r)
		l := anyScript(r, len(c.Nodes), 1+r.IntN(150))
		name := fmt.Sprintf("script %d of %v", i, c)
		m := held(t, name, c, l)
		if !m.lossless {
			not++
		} else if m.passing > 0 {
			turned++
		}
		for range 3 {
			cut := r.IntN(len(l) + 1)
			held(t, fmt.Sprintf("%s, the first %d", name, cut), c, l[:cut])
		}
		if t.Failed() {
			t.Fatalf("of script %v", l)
		}
	}
	if not < 200 || turned < 200 {
		t.Errorf("%d are not Lossless, %d are so with frames altered back", not, turned)
	}
}

// reach gives a script by which a sink may get the object, if the source sends to it: what the source sends, all of it delivered.
func reach(c api.Config, r *rand.Rand) []api.Event {
	at := slices.IndexFunc(c.Nodes, func(x api.Node) bool { return x.Kind == api.NodeSource })
	var l []api.Event
	for i := range 30 {
		l = append(l, api.Event{Kind: tick, N: 1}, api.Event{Kind: act, Node: at, Draws: []uint64{uint64(r.IntN(10)), uint64(i)}})
		l = append(l, to(deliver, slices.Repeat([]int{-1}, len(c.Nodes[at].To)+r.IntN(2))...)...)
	}
	return l
}

// TestEquations (T1, T2, T3): in a script that is Lossless each frame under way that passes is what the source's blocks make, and a sink tells the source's object just if it has the rank.
func TestEquations(t *testing.T) {
	r := rand.New(rand.NewPCG(27, 3))
	var told, altered int
	for range 400 {
		c := anyConfig(r)
		var blocks []string
		for s := c.Object; s != ""; s = s[min(len(s), c.Size):] {
			blocks = append(blocks, (s + "\x00\x00\x00")[:c.Size])
		}
		l := script(anyScript(r, len(c.Nodes), 60), reach(c, r), anyScript(r, len(c.Nodes), 60))
		for len(l) > 0 && !play.Lossless(c, l) {
			l = l[:len(l)-1-len(l)/20]
		}
		for _, x := range play.Flights(c, l) {
			f, err := frame.Decode(x.Bytes)
			if err == api.ErrSum {
				altered++
			} else if err != api.OK || f.From != x.From || f.Kind == api.FrameData && !xor.Holds(blocks, f.Packet.Row) {
				t.Fatalf("%v: under way is %v, %v, %d", c, x, f, err)
			}
		}
		reports, err := play.Play(c, l)
		if len(reports) != len(c.Nodes) || err != api.OK {
			t.Fatalf("%v: %v, %d", c, reports, err)
		}
		for id, x := range reports {
			done := c.Nodes[id].Kind == api.NodeSink && x.Rank == len(blocks)
			if want := map[bool]string{true: c.Object}[done]; x.Done != done || x.Object != want {
				t.Fatalf("%v: node %d tells %v", c, id, x)
			}
			if done {
				told++
			}
		}
	}
	if told < 20 || altered < 20 {
		t.Errorf("%d sinks told an object, %d frames are altered", told, altered)
	}
}

// TestCrashes (T4, T5): a node that crashed is empty, in its next incarnation, and the others, and what is under way, are as they were; none has more than it may.
func TestCrashes(t *testing.T) {
	r := rand.New(rand.NewPCG(27, 4))
	for range 150 {
		c := anyConfig(r)
		l := anyScript(r, len(c.Nodes), 100)
		before, _ := play.Play(c, l)
		way := play.Flights(c, l)
		if len(before) != len(c.Nodes) || len(way) > maxWay {
			t.Fatalf("%v: %v, %s", c, before, shown(way))
		}
		for id, x := range before {
			if x.Kept > c.Buffer || x.Rank > x.Kept || x.Queued > c.Queue*len(c.Nodes[id].To) || x.Known > len(c.Nodes) {
				t.Errorf("%v: node %d tells %v", c, id, x)
			}
			crashed := append(slices.Clip(l), api.Event{Kind: crash, Node: id})
			want := slices.Clone(before)
			want[id] = api.Report{Inc: x.Inc + 1}
			played(t, "a crash", c, crashed, want)
			flown(t, "a crash", c, crashed, way)
		}
	}
}

// TestNotDone: events of other kinds, of nodes and frames that are none, change nothing, wherever they stand.
func TestNotDone(t *testing.T) {
	r := rand.New(rand.NewPCG(27, 5))
	for i := range 150 {
		c := anyConfig(r)
		l := anyScript(r, len(c.Nodes), 40)
		more := script(to(deliver, 1), to(lose, 2), to(double, 3), flip(0, 1, 2))
		for _, e := range l {
			none := api.Event{Kind: []int{0, -1, 8, 9, 1<<32 + act, 1<<32 + alter, math.MinInt, math.MaxInt}[r.IntN(8)], N: r.IntN(4), At: 4, By: 4, Draws: []uint64{0, 1}}
			gone := api.Event{Kind: []int{act, crash}[r.IntN(2)], Node: []int{-1, len(c.Nodes), len(c.Nodes) + 1, 1 << 32, math.MinInt, math.MaxInt}[r.IntN(6)], Draws: []uint64{0, 1}}
			more = append(more, none, e, gone)
		}
		name := fmt.Sprintf("script %d", i)
		want, err := play.Play(c, l)
		if err != api.OK {
			t.Fatalf("%s: %d", name, err)
		}
		played(t, name, c, more, want)
		flown(t, name, c, more, play.Flights(c, l))
		lossless(t, name, c, more, play.Lossless(c, l))
		held(t, name, c, more)
	}
}

// wild gives a config of any numbers.
func wild(r *rand.Rand) api.Config {
	c := anyConfig(r)
	for range r.IntN(3) {
		x := anyNumber(r)
		switch r.IntN(10) {
		case 0:
			c.Spread = x
		case 1:
			c.Buffer = x
		case 2:
			c.Queue = x
		case 3:
			c.Cache = x
		case 4:
			c.Timeout = x
		case 5:
			c.Target = x
		case 6:
			c.Size = x
		case 7:
			c.Nodes[r.IntN(len(c.Nodes))].Kind = x
		case 8:
			i := r.IntN(len(c.Nodes))
			c.Nodes[i].To = append(c.Nodes[i].To, x)
		case 9:
			c.Object, c.Rate = strings.Repeat("x", r.IntN(400)), math.Float64frombits(r.Uint64())
		}
	}
	return c
}

// TestTotal (T7, R1): whatever config and script: nothing panics, and New's error is told.
func TestTotal(t *testing.T) {
	r := rand.New(rand.NewPCG(27, 6))
	var taken, wrong int
	for i := range 3000 {
		c := wild(r)
		l := make([]api.Event, r.IntN(40))
		for i := range l {
			l[i] = api.Event{Kind: 1 + r.IntN(7), Node: anyNumber(r), N: anyNumber(r), At: anyNumber(r), By: anyNumber(r), Draws: []uint64{r.Uint64(), r.Uint64()}}
			if r.IntN(2) == 0 {
				l[i].Kind, l[i].Node = act, r.IntN(8)
			}
		}
		name := fmt.Sprintf("script %d of %v", i, c)
		if err := net.Check(c); err != api.OK {
			wrong++
			if got, e := play.Play(c, l); len(got) != 0 || e != err {
				t.Errorf("%s: Play is %v, %d, not %d", name, got, e, err)
			}
			flown(t, name, c, l, nil)
			lossless(t, name, c, l, true)
			continue
		}
		taken++
		held(t, name, c, l)
	}
	if taken < 500 || wrong < 500 {
		t.Errorf("%d are taken, %d are not", taken, wrong)
	}
}

// TestLong: a script of many events ends soon, and tells what it should.
func TestLong(t *testing.T) {
	c := with(func(c *api.Config) { c.Rate = 100 })
	round := script(acts(0, 1, 2, 3, 4, 5, 6, 7), times(4, []api.Event{{Kind: tick, N: 1}}, to(double, 1), flip(2, 3, 4), to(deliver, 0, 0, 0), flip(-1, 3, 4), to(lose, 0)))
	l := times(250, round)
	m := held(t, "many", c, l)
	if !m.lossless || m.passing == 0 {
		t.Error("it is not Lossless, or nothing was altered back")
	}
	is := m.now[0]
	held(t, "many, and turned", c, script(l, turn(0, is, resealed(is, 1, 9))))
}

// complete gives a script behind which the nodes near, hub and sink have all blocks, with frames under way, doubled and altered ones among them.
func complete() []api.Event {
	var l []api.Event
	for i := range 8 {
		l = append(l, script([]api.Event{{Kind: tick, N: 1}}, acts(i), to(deliver, 0, 0), []api.Event{{Kind: act, Node: near, Draws: []uint64{uint64(i)}}}, to(deliver, 0))...)
	}
	return script(l, acts(3), greets(2), to(double, 0, 1, 2), flip(0, 3, 3), []api.Event{{Kind: act, Node: hub, Draws: []uint64{5, 6}}})
}

// TestHandedIn (R4): neither call changes what it is given, nor what lies behind its lists' ends, and what becomes of that changes nothing of what was told.
func TestHandedIn(t *testing.T) {
	object := []byte("-abcdefgh-")
	c := config()
	c.Object = unsafe.String(&object[1], 8)
	nodes := append(slices.Clone(c.Nodes), api.Node{Kind: 99, To: []int{98}})
	var tos [count][]int
	for id := range count {
		tos[id] = append(slices.Clone(c.Nodes[id].To), 97)
		nodes[id].To = tos[id][:len(tos[id])-1]
	}
	c.Nodes = nodes[:count]
	events := append(complete(), api.Event{Kind: crash, Node: 96, Draws: []uint64{95}})
	for i := range events {
		events[i].Draws = append(events[i].Draws, 94, 93)[:len(events[i].Draws)]
	}
	l := events[:len(events)-1]
	reports, err := play.Play(c, l)
	way := play.Flights(c, l)
	if err != api.OK || !play.Lossless(c, l) {
		t.Fatalf("%d, or it is not Lossless", err)
	}
	for id := range count {
		if want := append(config().Nodes[id].To, 97); !slices.Equal(tos[id], want) || nodes[id].Kind != config().Nodes[id].Kind {
			t.Errorf("node %d, as it was handed in, became %v, %d", id, nodes[id], tos[id])
		}
	}
	if string(object) != "-abcdefgh-" || nodes[count].Kind != 99 || nodes[count].To[0] != 98 {
		t.Errorf("what was handed in became %q, %v", object, nodes)
	}
	for i, x := range append(complete(), api.Event{Kind: crash, Node: 96, Draws: []uint64{95}}) {
		e := events[i]
		whole := e.Draws[:len(e.Draws)+2]
		if e.Kind != x.Kind || e.Node != x.Node || e.N != x.N || e.At != x.At || e.By != x.By || !slices.Equal(e.Draws, x.Draws) || whole[len(e.Draws)] != 94 || whole[len(e.Draws)+1] != 93 {
			t.Errorf("event %v, as it was handed in, became %v", x, whole)
		}
		clear(whole)
	}
	clear(object)
	clear(nodes)
	clear(events)
	for id := range count {
		clear(tos[id])
	}
	m := modelled(t, config(), complete())
	for id := range count {
		if want := m.n.Report(id); reports[id] != want {
			t.Errorf("node %d told %v, not %v", id, reports[id], want)
		}
	}
	if reports[sink].Object != "abcdefgh" || !slices.Equal(way, m.n.Flights()) {
		t.Errorf("%v; %s", reports[sink], shown(way))
	}
}

// wipe writes over flights, their bytes and what lies behind the list's end.
func wipe(l []api.Flight) {
	for _, x := range l {
		clear(unsafe.Slice(unsafe.StringData(x.Bytes), len(x.Bytes)))
	}
	clear(l[:cap(l)])
}

// TestHandedOut (R4): no two texts of an answer, nor of two, nor of what was handed in, share memory, and what becomes of them changes no other.
func TestHandedOut(t *testing.T) {
	c, l := config(), complete()
	c.Object = strings.Clone(c.Object)
	at := map[*byte]bool{}
	alone := func(s string) {
		t.Helper()
		p := unsafe.StringData(s)
		for i := range len(s) {
			q := (*byte)(unsafe.Add(unsafe.Pointer(p), i))
			if at[q] {
				t.Fatalf("two share memory: %q", s)
			}
			at[q] = true
		}
	}
	alone(c.Object)
	one, two := play.Flights(c, l), play.Flights(c, l)
	for _, x := range slices.Concat(one, two) {
		alone(x.Bytes)
	}
	first, _ := play.Play(c, l)
	second, _ := play.Play(c, l)
	for _, x := range slices.Concat(first, second) {
		alone(x.Object)
	}
	if len(one) < 9 || first[sink].Object != "abcdefgh" {
		t.Fatalf("%s; %v", shown(one), first)
	}
	wipe(one)
	clear(unsafe.Slice(unsafe.StringData(first[sink].Object), 8))
	clear(first[:cap(first)])
	m := held(t, "the others were written over", c, l)
	if !slices.Equal(two, m.n.Flights()) || second[sink].Object != "abcdefgh" || c.Object != "abcdefgh" {
		t.Errorf("%s; %v; %q", shown(two), second, c.Object)
	}
}

// told is what the three calls answer.
type told struct {
	reports  []api.Report
	err      api.Errno
	way      []api.Flight
	lossless bool
}

func tell(c api.Config, l []api.Event) told {
	reports, err := play.Play(c, l)
	return told{reports, err, play.Flights(c, l), play.Lossless(c, l)}
}

func (x told) same(y told) bool {
	return slices.Equal(x.reports, y.reports) && x.err == y.err && slices.Equal(x.way, y.way) && x.lossless == y.lossless
}

// TestAgain (R5): the same call again gives the same, whatever was called between, and beside others.
func TestAgain(t *testing.T) {
	r := rand.New(rand.NewPCG(27, 7))
	var configs []api.Config
	var lists [][]api.Event
	var want []told
	for range 60 {
		c := anyConfig(r)
		if r.IntN(8) == 0 {
			c.Object = strings.Repeat("x", 400)
		}
		configs, lists = append(configs, c), append(lists, anyScript(r, len(c.Nodes), 80))
	}
	for i, c := range configs {
		want = append(want, tell(c, lists[i]))
	}
	var all sync.WaitGroup
	for from := range 4 {
		all.Go(func() {
			for i := range configs {
				i = (7*i + 13*from) % len(configs)
				if got := tell(configs[i], lists[i]); !got.same(want[i]) {
					t.Errorf("script %d: %v, not %v", i, got, want[i])
				}
			}
		})
	}
	all.Wait()
	for i := len(configs) - 1; i >= 0; i-- {
		for range 2 {
			if got := tell(configs[i], lists[i]); !got.same(want[i]) {
				t.Errorf("script %d: %v, not %v", i, got, want[i])
			}
		}
	}
}
