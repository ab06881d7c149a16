package node_test

import (
	"encoding/binary"
	"fmt"
	"hash/crc32"
	"math"
	"math/big"
	"math/rand/v2"
	"slices"
	"strings"
	"testing"
	"unsafe"

	"bucketline/api"
	"bucketline/decoder"
	"bucketline/draws"
	"bucketline/encoder"
	"bucketline/frame"
	"bucketline/node"
	"bucketline/relay"
)

// The document's limits, by number.
const (
	maxK    = 128
	maxCap  = 256
	maxTick = 1 << 20
	maxNow  = 1 << 40
	maxInc  = 1<<32 - 1
)

// The nodes of config.
const (
	source = iota
	near   // a relay
	hub    // a relay that sends to all others, not by rising numbers
	sink
	mute // a sink that sends to none
	count
)

// config gives nodes of each kind, with To of none, of one, of some and of all others.
func config() api.Config {
	return api.Config{
		Nodes: []api.Node{
			{Kind: 1, To: []int{2, 1}},
			{Kind: 2, To: []int{3}},
			{Kind: 2, To: []int{4, 0, 3, 1}},
			{Kind: 3, To: []int{2}},
			{Kind: 3},
		},
		Object: "abcd", Size: 1, Buffer: 8, Queue: 4, Cache: 4, Rate: 1, Timeout: 5, Target: 1,
	}
}

// with gives config, changed.
func with(change func(*api.Config)) api.Config {
	c := config()
	change(&c)
	return c
}

// takes tells by chapter 26's words whether the promises speak of c.
func takes(c api.Config) bool {
	sources := 0
	for i, x := range c.Nodes {
		if x.Kind < 1 || x.Kind > 3 {
			return false
		}
		if x.Kind == 1 {
			sources++
		}
		for j, to := range x.To {
			if to < 0 || to >= len(c.Nodes) || to == i || slices.Contains(x.To[:j], to) {
				return false
			}
		}
	}
	within := func(n, least, most int) bool { return least <= n && n <= most }
	return within(len(c.Nodes), 1, 8) && sources == 1 && within(c.Spread, 0, maxK) && within(c.Buffer, 1, maxCap) && within(c.Queue, 1, maxCap) &&
		within(c.Cache, 0, maxCap) && within(c.Timeout, 0, maxTick) && within(c.Target, 1, maxK) && within(c.Size, 1, 64) && len(c.Object) <= maxK*c.Size
}

// rates are of every kind, with the thousandths that each gives.
var rates = []struct {
	rate  float64
	milli int
}{
	{math.NaN(), 0}, {math.Inf(-1), 0}, {-math.MaxFloat64, 0}, {-1, 0}, {-math.SmallestNonzeroFloat64, 0}, {math.Copysign(0, -1), 0}, {0, 0}, {math.SmallestNonzeroFloat64, 0}, {0.0009, 0},
	{0.001, 1}, {0.3, 299}, {0.5, 500}, {math.Nextafter(1, 0), 999}, {1, 1000}, {1.5, 1500}, {2, 2000}, {256, 256000}, {999.5, 999500}, {1000, 1000000}, {1001, 1000000}, {math.MaxFloat64, 1000000}, {math.Inf(1), 1000000},
}

// ticks are of every kind.
var ticks = []int{math.MinInt, -1 << 62, -1 << 32, -1<<32 + 3, -maxTick, -1, 0, 1, 2, 3, 4, 255, 256, 1000, maxTick - 1, maxTick, maxTick + 1, 1 << 31, 1 << 32, 1<<32 + 1, 1 << 44, 1 << 62, math.MaxInt}

// moments are of every kind.
var moments = []int{math.MinInt, -1 << 40, -1 << 32, -1, 0, 1, 4, 5, 6, 7, 100, maxTick, 1 << 32, maxNow - 6, maxNow - 5, maxNow - 1, maxNow, maxNow + 1, 1 << 62, math.MaxInt}

func bounded(n, least, most int) int {
	switch {
	case n < least:
		return least
	case n > most:
		return most
	}
	return n
}

// milliOf is what chapter 21 says of Milli, by fractions of whole numbers of any size.
func milliOf(rate float64) int {
	switch {
	case math.IsNaN(rate), rate <= 0:
		return 0
	case rate >= 1000:
		return 1000000
	}
	p := new(big.Rat).SetFloat64(rate)
	p.Mul(p, big.NewRat(1000, 1))
	return int(new(big.Int).Quo(p.Num(), p.Denom()).Int64())
}

// packetBytes is what chapter 7 says of Encode, of a packet that is right.
func packetBytes(p api.Packet) []byte {
	b := binary.BigEndian.AppendUint32(nil, uint32(p.Object))
	b = binary.BigEndian.AppendUint32(b, uint32(p.Len))
	b = append(b, byte(p.K), byte(p.Size), byte(p.Hops))
	for _, w := range p.Row.Vec {
		b = binary.BigEndian.AppendUint64(b, w)
	}
	return append(b, p.Row.Data...)
}

// sealed gives b and the library's sum of it.
func sealed(b []byte) string {
	return string(binary.BigEndian.AppendUint32(slices.Clone(b), crc32.ChecksumIEEE(b)))
}

// headBytes gives what a frame's bytes begin with.
func headBytes(kind, from, inc int) []byte {
	return binary.BigEndian.AppendUint32([]byte{byte(kind), byte(from)}, uint32(inc))
}

// hello gives the bytes of a frame without a packet.
func hello(from, inc int) string {
	return sealed(headBytes(1, from, inc))
}

// data gives the bytes of a frame with that packet.
func data(from, inc int, p api.Packet) string {
	return sealed(append(headBytes(2, from, inc), packetBytes(p)...))
}

// four gives the packet of these of the blocks a, b, c, d of object 0.
func four(bits uint64) api.Packet {
	var sum byte
	for i := range 4 {
		if bits>>i&1 == 1 {
			sum ^= "abcd"[i]
		}
	}
	return api.Packet{Len: 4, K: 4, Size: 1, Row: api.Row{Vec: []uint64{bits}, Data: string([]byte{sum})}}
}

// of gives p as of another object.
func of(object int, p api.Packet) api.Packet {
	p.Object = object
	return p
}

// by gives p, come by so many relays.
func by(hops int, p api.Packet) api.Packet {
	p.Hops = hops
	return p
}

// wide gives the packet of one of 128 blocks, all of another byte.
func wide(block int) api.Packet {
	v := make([]uint64, 2)
	v[block/64] = 1 << (block % 64)
	return api.Packet{Len: 128, K: 128, Size: 1, Row: api.Row{Vec: v, Data: string([]byte{byte(block)})}}
}

// line is a link, told by the words of chapters 21, 22 and 24.
type line struct {
	level   int
	waiting []string
}

// model is a node, told by the chapter's words: frames, links, members and cache by those of their chapters, the rows by the layers below.
type model struct {
	c       api.Config
	id, inc int
	lines   []line
	heard   map[int][2]int
	prints  []uint32
	source  *encoder.Source
	relay   *relay.Relay
	decoder *decoder.Decoder
}

func modelled(c api.Config, id int) *model {
	m := &model{c: c, id: id}
	if m.kind() == 1 {
		m.source, _ = encoder.New(id, c.Object, c.Size, c.Spread)
	}
	m.start()
	return m
}

func (m *model) kind() int { return m.c.Nodes[m.id].Kind }

func (m *model) to() []int { return m.c.Nodes[m.id].To }

func (m *model) start() {
	m.lines = make([]line, len(m.to()))
	for i := range m.lines {
		m.lines[i].level = 1000 * m.c.Queue
	}
	m.heard, m.prints = map[int][2]int{}, nil
	switch m.kind() {
	case 2:
		m.relay = relay.New(m.c.Buffer, m.c.Target)
	case 3:
		m.decoder = decoder.New(m.c.Buffer)
	}
}

func (m *model) receive(s string, now int) api.Errno {
	f, err := frame.Decode(s)
	if err != api.OK {
		return err
	}
	if last, is := m.heard[f.From]; now >= 0 && now <= maxNow && (!is || f.Inc >= last[0]) {
		m.heard[f.From] = [2]int{f.Inc, now}
	}
	if f.Kind == 2 && m.fresh(f.Packet) {
		switch m.kind() {
		case 2:
			m.relay.Put(f.Packet)
		case 3:
			m.decoder.Put(f.Packet)
		}
	}
	return api.OK
}

func (m *model) fresh(p api.Packet) bool {
	print := crc32.ChecksumIEEE(packetBytes(by(0, p)))
	if slices.Contains(m.prints, print) {
		return false
	}
	m.prints = append(m.prints, print)
	m.prints = m.prints[max(len(m.prints)-m.c.Cache, 0):]
	return true
}

func (m *model) act(d []uint64) {
	s := hello(m.id, m.inc)
	switch m.kind() {
	case 1:
		s = data(m.id, m.inc, m.source.Emit(draws.New(d)))
	case 2:
		if p, ok := m.relay.Emit(draws.New(d)); ok {
			s = data(m.id, m.inc, p)
		}
	}
	for i := range m.lines {
		if l := &m.lines[i]; len(l.waiting) < m.c.Queue {
			l.waiting = append(l.waiting, s)
		}
	}
}

func (m *model) tick(k int) {
	for i := range m.lines {
		l := &m.lines[i]
		l.level = min(l.level+bounded(k, 0, maxTick)*milliOf(m.c.Rate), 1000*m.c.Queue)
	}
}

func (m *model) pump() []api.Flight {
	var out []api.Flight
	for i := range m.lines {
		l := &m.lines[i]
		for len(l.waiting) > 0 && l.level >= 1000 {
			out = append(out, api.Flight{From: m.id, To: m.to()[i], Bytes: l.waiting[0]})
			l.waiting, l.level = l.waiting[1:], l.level-1000
		}
	}
	return out
}

func (m *model) crash() {
	m.inc++
	m.start()
}

func (m *model) known(now int) int {
	n := 0
	for _, last := range m.heard {
		if now >= last[1] && now <= maxNow && now-last[1] <= m.c.Timeout {
			n++
		}
	}
	return n
}

func (m *model) report(now int) api.Report {
	r := api.Report{Inc: m.inc, Known: m.known(now)}
	for _, l := range m.lines {
		r.Queued += len(l.waiting)
	}
	switch m.kind() {
	case 2:
		r.Kept, r.Rank = m.relay.Kept(), m.relay.Rank()
	case 3:
		r.Kept, r.Rank, r.Done, r.Object = m.decoder.Kept(), m.decoder.Rank(), m.decoder.Done(), m.decoder.Object()
	}
	return r
}

// subject is a node and its model, to which the same is done.
type subject struct {
	t    *testing.T
	name string
	n    *node.Node
	m    *model
}

func begun(t *testing.T, name string, c api.Config, id int) *subject {
	t.Helper()
	if !takes(c) {
		t.Fatalf("%s: the promises don't speak of %v", name, c)
	}
	s := &subject{t: t, name: name, n: node.New(c, id), m: modelled(c, id)}
	if s.n == nil {
		t.Fatalf("%s: no node %d", name, id)
	}
	s.check()
	return s
}

// check holds what a node tells against the model, at these moments and at some that are near to what was heard; twice, as to ask changes nothing.
func (s *subject) check(at ...int) {
	s.t.Helper()
	at = append(at, 0, maxNow)
	for _, last := range s.m.heard {
		at = append(at, last[1]-1, last[1], last[1]+s.m.c.Timeout, last[1]+s.m.c.Timeout+1)
	}
	for _, now := range append(at, at[0]) {
		if got, want := s.n.Report(now), s.m.report(now); got != want {
			s.t.Errorf("%s: node %d: Report(%d) is %v, not %v", s.name, s.m.id, now, got, want)
		}
	}
}

func (s *subject) receive(text string, now int) {
	s.t.Helper()
	if got, want := s.n.Receive(text, now), s.m.receive(text, now); got != want {
		s.t.Errorf("%s: node %d: Receive(%q, %d) is %d, not %d", s.name, s.m.id, text, now, got, want)
	}
	s.check(now)
}

func (s *subject) act(d []uint64, now int) {
	s.t.Helper()
	s.n.Act(d, now)
	s.m.act(d)
	s.check(now)
}

func (s *subject) tick(k int) {
	s.t.Helper()
	s.n.Tick(k)
	s.m.tick(k)
	s.check()
}

// pump gives what went, too.
func (s *subject) pump() []api.Flight {
	s.t.Helper()
	got, want := s.n.Pump(), s.m.pump()
	if !slices.Equal(got, want) {
		s.t.Errorf("%s: node %d: Pump is %d, %.300s, not %d, %.300s", s.name, s.m.id, len(got), shown(got), len(want), shown(want))
	}
	s.check()
	return got
}

func (s *subject) crash() {
	s.t.Helper()
	s.n.Crash()
	s.m.crash()
	s.check()
}

// all does all that shows what a node has: what it sends, and the level of its links.
func (s *subject) all() {
	s.t.Helper()
	for i := range uint64(3) {
		s.act([]uint64{i, i}, 0)
		s.pump()
		s.tick(1)
	}
	for range 2 {
		for range s.m.c.Queue + 1 {
			s.act(nil, 0)
		}
		s.pump()
		s.tick(1)
	}
}

// shown gives flights as a text that can be read.
func shown(l []api.Flight) string {
	var b strings.Builder
	for _, x := range l {
		fmt.Fprintf(&b, "[%d to %d: %q]", x.From, x.To, x.Bytes)
	}
	return b.String()
}

// frames gives the frames that went to one node.
func frames(t *testing.T, l []api.Flight, to int) []api.Frame {
	t.Helper()
	var out []api.Frame
	for _, x := range l {
		f, err := frame.Decode(x.Bytes)
		if err != api.OK {
			t.Fatalf("%q is no frame: %d", x.Bytes, err)
		}
		if x.To == to {
			out = append(out, f)
		}
	}
	return out
}

// fault is a text that chapter 8's Decode refuses, and its error.
type fault struct {
	name string
	text string
	err  api.Errno
}

// faults gives each reason, by frames that are right but for it.
func faults() []fault {
	body := packetBytes(four(1))
	put := func(at int, b byte) string {
		x := append(headBytes(2, 1, 0), body...)
		x[6+at] = b
		return sealed(x)
	}
	head := headBytes(2, 1, 0)
	altered := []byte(data(1, 0, four(1)))
	altered[24] ^= 1
	return []fault{
		{"nothing", "", api.ErrSize},
		{"no room for a sum", "\x01\x01\x00", api.ErrSize},
		{"another sum", hello(1, 0)[:9] + "\x00", api.ErrSum},
		{"a bit altered", string(altered), api.ErrSum},
		{"a sum alone", sealed(nil), api.ErrSize},
		{"below 6 bytes", sealed(headBytes(1, 1, 0)[:5]), api.ErrSize},
		{"From 8", hello(8, 0), api.ErrSyntax},
		{"From 8 with a packet", data(8, 0, four(1)), api.ErrSyntax},
		{"From 255", hello(255, 0), api.ErrSyntax},
		{"Kind 0", sealed(headBytes(0, 1, 0)), api.ErrSyntax},
		{"Kind 3", sealed(append(headBytes(3, 1, 0), body...)), api.ErrSyntax},
		{"a hello with more", sealed(append(headBytes(1, 1, 0), 0)), api.ErrSyntax},
		{"a hello with a packet", sealed(append(headBytes(1, 1, 0), body...)), api.ErrSyntax},
		{"no packet", sealed(head), api.ErrSize},
		{"a short packet", sealed(append(headBytes(2, 1, 0), body[:len(body)-1]...)), api.ErrSize},
		{"a long packet", sealed(append(append(headBytes(2, 1, 0), body...), 0)), api.ErrSyntax},
		{"Len beyond", put(7, 5), api.ErrSyntax},
		{"K 0", put(8, 0), api.ErrSyntax},
		{"K 129", put(8, 129), api.ErrSyntax},
		{"Size 0", put(9, 0), api.ErrSyntax},
		{"Size 65", put(9, 65), api.ErrSyntax},
		{"16 relays", put(10, 16), api.ErrSyntax},
		{"no bit", put(18, 0), api.ErrSyntax},
		{"a bit from K on", put(18, 16), api.ErrSyntax},
	}
}

// TestExample is the chapter's: a sink that acts sends a hello; its bytes were worked out by another program.
func TestExample(t *testing.T) {
	c := api.Config{Nodes: []api.Node{{Kind: api.NodeSource}, {Kind: api.NodeSink, To: []int{0}}}, Size: 1, Buffer: 1, Queue: 1, Target: 1}
	k := node.New(c, 1)
	k.Act([]uint64{7}, 3)
	want := []api.Flight{{From: 1, To: 0, Bytes: "\x01\x01\x00\x00\x00\x00\x47\xfe\x5b\xb6"}}
	if got := k.Pump(); !slices.Equal(got, want) {
		t.Errorf("%s, not %s", shown(got), shown(want))
	}
}

// TestLine: a source, a relay and a sink, by hand.
func TestLine(t *testing.T) {
	c := with(func(c *api.Config) { c.Object, c.Size, c.Queue = "abc", 2, 2 })
	s, r, k := node.New(c, source), node.New(c, near), node.New(c, sink)
	s.Act([]uint64{0, 1}, 0)
	s.Act([]uint64{0, 0, 99, 98}, 0)
	first := api.Packet{Len: 3, K: 2, Size: 2, Row: api.Row{Vec: []uint64{2}, Data: "c\x00"}}
	second := api.Packet{Len: 3, K: 2, Size: 2, Row: api.Row{Vec: []uint64{1}, Data: "ab"}}
	got := s.Pump()
	want := []api.Flight{{From: 0, To: 2, Bytes: data(0, 0, first)}, {From: 0, To: 2, Bytes: data(0, 0, second)}, {From: 0, To: 1, Bytes: data(0, 0, first)}, {From: 0, To: 1, Bytes: data(0, 0, second)}}
	if !slices.Equal(got, want) {
		t.Fatalf("%s, not %s", shown(got), shown(want))
	}
	for i, f := range got[2:] {
		r.Receive(f.Bytes, i)
	}
	if got, want := r.Report(6), (api.Report{Kept: 2, Rank: 2, Known: 1}); got != want {
		t.Errorf("the relay: %v, not %v", got, want)
	}
	r.Act([]uint64{1}, 0)
	r.Act([]uint64{2}, 0)
	got = r.Pump()
	want = []api.Flight{{From: 1, To: 3, Bytes: data(1, 0, by(1, second))}, {From: 1, To: 3, Bytes: data(1, 0, by(1, first))}}
	if !slices.Equal(got, want) {
		t.Fatalf("%s, not %s", shown(got), shown(want))
	}
	k.Receive(got[0].Bytes, 9)
	if got, want := k.Report(9), (api.Report{Kept: 1, Rank: 1, Known: 1}); got != want {
		t.Errorf("the sink: %v, not %v", got, want)
	}
	k.Receive(got[1].Bytes, 9)
	if got, want := k.Report(15), (api.Report{Kept: 2, Rank: 2, Done: true, Object: "abc"}); got != want {
		t.Errorf("the sink: %v, not %v", got, want)
	}
	k.Crash()
	if got, want := k.Report(9), (api.Report{Inc: 1}); got != want {
		t.Errorf("the sink, crashed: %v, not %v", got, want)
	}
}

// TestNew: which ids are nodes.
func TestNew(t *testing.T) {
	for _, id := range []int{math.MinInt, math.MinInt + 1, -1 << 32, -1<<32 + 1, -count, -2, -1, count, count + 1, 7, 8, 256, 257, 1 << 31, 1 << 32, 1<<32 + 1, math.MaxInt} {
		if node.New(config(), id) != nil {
			t.Errorf("there is a node %d", id)
		}
	}
	for id := range count {
		s := begun(t, "new", config(), id)
		s.all()
	}
	eight := api.Config{Nodes: make([]api.Node, 8), Size: 1, Buffer: 1, Queue: 1, Target: 1}
	for i := range eight.Nodes {
		eight.Nodes[i] = api.Node{Kind: 2 + i%2, To: []int{(i + 1) % 8}}
	}
	eight.Nodes[7].Kind = 1
	for id := range 8 {
		begun(t, "of eight", eight, id).all()
	}
	one := api.Config{Nodes: []api.Node{{Kind: 1}}, Size: 1, Buffer: 1, Queue: 1, Target: 1}
	begun(t, "of one", one, 0).all()
	if node.New(one, 1) != nil || node.New(eight, 8) != nil || node.New(api.Config{}, 0) != nil {
		t.Error("there is a node beyond the last")
	}
}

// TestOtherConfigs (R1): of configs of which nothing else is promised, no call panics.
func TestOtherConfigs(t *testing.T) {
	for name, c := range map[string]api.Config{
		"other kinds":     with(func(c *api.Config) { c.Nodes[0].Kind, c.Nodes[1].Kind, c.Nodes[2].Kind = 0, 4, math.MinInt }),
		"other To":        with(func(c *api.Config) { c.Nodes[0].To = []int{-1, 0, 0, math.MaxInt} }),
		"fifteen":         with(func(c *api.Config) { c.Nodes = slices.Repeat(c.Nodes, 3) }),
		"blocks of none":  with(func(c *api.Config) { c.Size = 0 }),
		"too many blocks": with(func(c *api.Config) { c.Object = strings.Repeat("x", 129) }),
		"least": with(func(c *api.Config) {
			c.Spread, c.Buffer, c.Queue, c.Cache, c.Timeout, c.Target = -1, -1, -1, -1, -1, -1
		}),
		"greatest": with(func(c *api.Config) {
			c.Spread, c.Buffer, c.Queue, c.Cache, c.Timeout, c.Target = math.MaxInt, math.MaxInt, math.MaxInt, math.MaxInt, math.MaxInt, math.MaxInt
		}),
	} {
		for id := range c.Nodes {
			n := node.New(c, id)
			for range 2 {
				n.Act(nil, 0)
				if err := n.Receive(data(0, 0, four(3)), 0); err != api.OK {
					t.Errorf("%s: Receive is %d", name, err)
				}
				n.Act(nil, 0)
				n.Tick(1)
				n.Pump()
				n.Report(0)
				n.Crash()
			}
		}
	}
	var zero node.Node
	zero.Receive(data(0, 0, four(3)), 0)
	zero.Act(nil, 0)
	zero.Tick(1)
	zero.Pump()
	zero.Crash()
	zero.Report(0)
}

// TestSource: what it sends is of the config's Object, Size and Spread, and of object id.
func TestSource(t *testing.T) {
	for id := range 3 {
		for _, x := range []struct {
			text         string
			size, spread int
		}{{"", 1, 0}, {"", 64, 128}, {"a", 1, 1}, {"abcde", 2, 0}, {"abcde", 2, 3}, {"abcde", 2, 128}, {strings.Repeat("ab", 64), 1, 16}, {strings.Repeat("ab", 64), 1, 127}, {strings.Repeat("ab", 64), 1, 128}, {strings.Repeat("xyz", 2730), 64, 5}, {strings.Repeat("wxyz", 2048), 64, 0}} {
			c := with(func(c *api.Config) { c.Object, c.Size, c.Spread, c.Queue = x.text, x.size, x.spread, 64 })
			c.Nodes[0].Kind = 2
			c.Nodes[id] = api.Node{Kind: 1, To: []int{4}}
			s := begun(t, "source", c, id)
			for i := range uint64(32) {
				s.act([]uint64{i << 15, i, i + 7, 5 * i}, 0)
				s.act([]uint64{i << 19, i, i + 7, 5 * i}, 0)
			}
			k := max(1, (len(x.text)+x.size-1)/x.size)
			for _, f := range frames(t, s.pump(), 4) {
				if p := f.Packet; f.Kind != 2 || f.From != id || p.Object != id || p.Len != len(x.text) || p.K != k || p.Size != x.size || p.Hops != 0 {
					t.Errorf("node %d sends %v of %q", id, f, x.text)
				}
			}
		}
	}
}

// TestSpread: it is told by the degree of a draw behind the share of degree 1 without a spread, and within it with one.
func TestSpread(t *testing.T) {
	for _, x := range []struct {
		spread int
		bits   uint64
	}{{0, 3}, {2, 1}} {
		n := node.New(with(func(c *api.Config) { c.Spread = x.spread }), source)
		n.Act([]uint64{300000, 0, 0}, 0)
		if f := frames(t, n.Pump(), near)[0]; f.Packet.Row.Vec[0] != x.bits {
			t.Errorf("spread %d: %v", x.spread, f)
		}
	}
}

// TestBounds: Queue, Buffer, Cache at their edges, of each kind of node.
func TestBounds(t *testing.T) {
	for _, most := range []int{1, 2, 3, 255, 256} {
		for name, c := range map[string]api.Config{
			"Queue":  with(func(c *api.Config) { c.Queue = most }),
			"Buffer": with(func(c *api.Config) { c.Buffer = most }),
			"Cache":  with(func(c *api.Config) { c.Cache = most }),
		} {
			for id := range count {
				s := begun(t, name, c, id)
				for range c.Queue + 1 {
					s.act(nil, 0)
				}
				s.pump()
				for i := range uint64(7) {
					s.receive(data(0, 0, four(1+i*3%7)), 1)
				}
				s.receive(data(0, 0, four(1)), 1)
				s.act(nil, 0)
				s.all()
			}
		}
	}
}

// TestBufferFull: a sink and a relay keep just as many as they may.
func TestBufferFull(t *testing.T) {
	for _, most := range []int{1, 2, 127, 128, 129, 255, 256} {
		c := with(func(c *api.Config) { c.Buffer, c.Cache = most, 0 })
		r, k := node.New(c, near), node.New(c, sink)
		for i := range 300 {
			for _, n := range []*node.Node{r, k} {
				// The last block never comes, so that the sink is not done.
				if err := n.Receive(data(0, 0, wide(i%127)), 0); err != api.OK {
					t.Fatalf("Receive is %d", err)
				}
			}
		}
		if got, want := r.Report(0).Kept, min(most, 127); got != want {
			t.Errorf("a relay of %d keeps %d", most, got)
		}
		if got, want := k.Report(0), (api.Report{Kept: most, Rank: min(most, 127), Known: 1}); got != want {
			t.Errorf("a sink of %d: %v, not %v", most, got, want)
		}
	}
}

// TestTarget: a relay aims at it.
func TestTarget(t *testing.T) {
	for _, x := range []struct {
		target int
		bits   uint64
	}{{1, 1}, {2, 3}, {3, 7}, {4, 15}, {128, 15}} {
		n := node.New(with(func(c *api.Config) { c.Target = x.target }), near)
		for i := range 4 {
			n.Receive(data(0, 0, four(1<<i)), 0)
		}
		n.Act([]uint64{4}, 0)
		if f := frames(t, n.Pump(), sink)[0]; f.Kind != 2 || f.Packet.Row.Vec[0] != x.bits || f.Packet.Hops != 1 {
			t.Errorf("target %d: %v", x.target, f)
		}
	}
}

// TestRates: each kind, by how many frames may go.
func TestRates(t *testing.T) {
	for _, x := range rates {
		if milliOf(x.rate) != x.milli {
			t.Fatalf("the model's thousandths of %v", x.rate)
		}
		for _, queue := range []int{1, 2, 256} {
			for _, id := range []int{source, near, hub, sink} {
				s := begun(t, "rate", with(func(c *api.Config) { c.Rate, c.Queue = x.rate, queue }), id)
				for _, k := range []int{1, 1, 1, 3, 999, 1000, maxTick} {
					for range min(queue, 5) {
						s.act(nil, 0)
					}
					s.pump()
					s.tick(k)
				}
				s.all()
				if t.Failed() {
					t.Fatalf("rate %v, queue %d", x.rate, queue)
				}
			}
		}
	}
}

// TestRefused: bytes that chapter 8's Decode refuses; nothing is heard, kept or seen.
func TestRefused(t *testing.T) {
	for _, x := range faults() {
		for id := range count {
			s := begun(t, x.name, config(), id)
			for range 2 {
				for _, now := range []int{-1, 0, 5, maxNow + 1} {
					if err := s.n.Receive(x.text, now); err != x.err {
						t.Errorf("%s: Receive is %d, not %d", x.name, err, x.err)
					}
					if got := s.n.Report(now); got != (api.Report{}) {
						t.Errorf("%s: %v", x.name, got)
					}
				}
			}
			s.check()
			s.receive(data(1, 0, four(1)), 5)
			s.receive(x.text, 7)
			s.receive(data(2, 0, four(2)), 6)
			s.all()
		}
	}
}

// TestReceive: a hello and frames with packets, of each kind of node.
func TestReceive(t *testing.T) {
	for id, want := range []api.Report{
		source: {Known: 2},
		near:   {Known: 2, Kept: 2, Rank: 2},
		hub:    {Known: 2, Kept: 2, Rank: 2},
		sink:   {Known: 2, Kept: 3, Rank: 2},
		mute:   {Known: 2, Kept: 3, Rank: 2},
	} {
		s := begun(t, "receive", config(), id)
		s.receive(hello(7, 3), 2)
		s.receive(data(0, 0, four(1)), 2)
		s.receive(data(0, 0, four(2)), 2)
		s.receive(data(0, 0, four(3)), 2)
		if got := s.n.Report(2); got != want {
			t.Errorf("node %d: %v, not %v", id, got, want)
		}
		s.all()
	}
}

// TestSourceReceives: what a source is told by frames changes nothing of what it sends.
func TestSourceReceives(t *testing.T) {
	one, two := node.New(config(), source), node.New(config(), source)
	for i := range uint64(20) {
		one.Receive(data(1, 0, of(int(i%3), four(1+i%15))), 0)
		one.Act([]uint64{0, i}, 0)
		two.Act([]uint64{0, i}, 9)
		if a, b := one.Pump(), two.Pump(); !slices.Equal(a, b) {
			t.Fatalf("%s and %s", shown(a), shown(b))
		}
	}
}

// kept receives these packets one after the other and tells how many are kept then.
func kept(t *testing.T, c api.Config, id int, l ...api.Packet) int {
	t.Helper()
	s := begun(t, "kept", c, id)
	for _, p := range l {
		s.receive(data(0, 0, p), 0)
	}
	s.all()
	return s.n.Report(0).Kept
}

// TestSeenBySink: a sink keeps what comes twice, just if the cache does not know it any more.
func TestSeenBySink(t *testing.T) {
	a, b, c := four(1), four(2), four(3)
	for _, x := range []struct {
		name  string
		cache int
		l     []api.Packet
		kept  int
	}{
		{"at once, without a cache", 0, []api.Packet{a, a}, 2},
		{"thrice, without a cache", 0, []api.Packet{a, a, a}, 3},
		{"at once", 1, []api.Packet{a, a}, 1},
		{"behind another, of one", 1, []api.Packet{a, b, a}, 3},
		{"behind another, of two", 2, []api.Packet{a, b, a}, 2},
		{"behind two, of two", 2, []api.Packet{a, b, c, a}, 4},
		{"behind two, of the most", 256, []api.Packet{a, b, c, a, b, c}, 3},
		{"by other relays", 4, []api.Packet{a, by(3, a), by(15, a)}, 1},
		{"by other relays first", 4, []api.Packet{by(15, a), a}, 1},
		{"by other relays, without a cache", 0, []api.Packet{a, by(3, a)}, 2},
		{"seen again is not newer", 2, []api.Packet{a, b, a, c, a}, 4},
		{"another object is seen, too", 1, []api.Packet{a, of(1, a), a}, 2},
		{"another object, of two", 2, []api.Packet{a, of(1, a), a}, 1},
	} {
		if got := kept(t, with(func(c *api.Config) { c.Cache = x.cache }), sink, x.l...); got != x.kept {
			t.Errorf("%s: %d kept, not %d", x.name, got, x.kept)
		}
	}
}

// TestSeenByRelay: one that went for another is kept again, just if the cache does not know it any more; by what is sent.
func TestSeenByRelay(t *testing.T) {
	for _, x := range []struct {
		cache int
		hops  int
		bits  uint64
	}{{0, 0, 1}, {1, 0, 1}, {2, 0, 2}, {256, 0, 2}, {0, 4, 1}, {2, 4, 2}} {
		s := begun(t, "seen", with(func(c *api.Config) { c.Buffer, c.Cache = 1, x.cache }), near)
		s.receive(data(0, 0, four(1)), 0)
		s.receive(data(0, 0, four(2)), 0)
		s.receive(data(2, 0, by(x.hops, four(1))), 0)
		s.act(nil, 0)
		if f := frames(t, s.pump(), sink)[0]; f.Packet.Row.Vec[0] != x.bits {
			t.Errorf("cache %d, %d hops: %v", x.cache, x.hops, f)
		}
	}
}

// TestSeenWide: a packet is known as long as there is room for it and for all that came behind it.
func TestSeenWide(t *testing.T) {
	for _, cache := range []int{1, 2, 127, 128, 129, 254, 255, 256} {
		for behind := max(cache-2, 0); behind <= cache+1; behind++ {
			n := node.New(with(func(c *api.Config) { c.Cache = cache }), sink)
			n.Receive(data(0, 0, four(1)), 0)
			for i := range behind {
				// Of other objects: they are seen, but not kept.
				n.Receive(data(0, 0, of(1+i, four(1))), 0)
			}
			n.Receive(data(0, 0, four(1)), 0)
			want := 1
			if behind >= cache {
				want = 2
			}
			if got := n.Report(0).Kept; got != want {
				t.Errorf("cache %d, %d behind it: %d kept, not %d", cache, behind, got, want)
			}
		}
	}
}

// TestPutRefused: a packet that the relay or the decoder refuses is OK all the same, and its frame was heard.
func TestPutRefused(t *testing.T) {
	for _, id := range []int{near, sink} {
		for _, p := range []api.Packet{of(1, four(2)), wide(5), {Len: 3, K: 4, Size: 1, Row: api.Row{Vec: []uint64{2}, Data: "b"}}, {Len: 4, K: 4, Size: 2, Row: api.Row{Vec: []uint64{2}, Data: "bb"}}} {
			s := begun(t, "of another object", config(), id)
			s.receive(data(0, 0, four(1)), 0)
			s.receive(data(7, 0, p), 0)
			if got, want := s.n.Report(0), (api.Report{Kept: 1, Rank: 1, Known: 2}); got != want {
				t.Errorf("node %d, behind %v: %v, not %v", id, p, got, want)
			}
			s.all()
		}
	}
	s := begun(t, "full", with(func(c *api.Config) { c.Buffer = 1 }), sink)
	s.receive(data(0, 0, four(1)), 0)
	s.receive(data(6, 0, four(2)), 0)
	if got, want := s.n.Report(0), (api.Report{Kept: 1, Rank: 1, Known: 2}); got != want {
		t.Errorf("full: %v, not %v", got, want)
	}
	s = begun(t, "done", config(), sink)
	for i := range 4 {
		s.receive(data(0, 0, four(1<<i)), 0)
	}
	s.receive(data(5, 0, four(15)), 0)
	if got, want := s.n.Report(0), (api.Report{Kept: 4, Rank: 4, Known: 2, Done: true, Object: "abcd"}); got != want {
		t.Errorf("done: %v, not %v", got, want)
	}
	s = begun(t, "made by the others", config(), near)
	s.receive(data(0, 0, four(1)), 0)
	s.receive(data(0, 0, four(2)), 0)
	s.receive(data(6, 0, four(3)), 0)
	if got, want := s.n.Report(0), (api.Report{Kept: 2, Rank: 2, Known: 2}); got != want {
		t.Errorf("made by the others: %v, not %v", got, want)
	}
}

// TestHeard: From and Inc as chapter 20 takes and refuses them, by hellos and by packets; what is refused is OK all the same, and its packet is taken.
func TestHeard(t *testing.T) {
	for id := range count {
		for _, from := range []int{0, 1, 4, 6, 7} {
			for _, inc := range []int{0, 1, 1 << 31, maxInc} {
				s := begun(t, "heard", config(), id)
				s.receive(hello(from, inc), 10)
				s.receive(hello(from, max(inc-1, 0)), 20)
				s.receive(data(from, 0, four(1)), 30)
				want := 0
				if inc == 0 {
					want = 1
				}
				if got := s.n.Report(30).Known; got != want {
					t.Errorf("from %d, inc %d: %d known, not %d", from, inc, got, want)
				}
				if got := s.n.Report(30).Kept; (got == 1) != (id != source) {
					t.Errorf("node %d keeps %d", id, got)
				}
				s.receive(hello(from, inc), 40)
				s.receive(data(from, min(inc+1, maxInc), four(2)), 7)
				if got := s.n.Report(7).Known; got != 1 || s.n.Report(40).Known != 0 {
					t.Errorf("from %d, inc %d: %d known at the earlier moment", from, inc, got)
				}
			}
		}
	}
}

// TestKnown: by the timeout, at it and beyond; all nodes, itself among them.
func TestKnown(t *testing.T) {
	for _, timeout := range []int{0, 1, 5, 7, 8, maxTick - 1, maxTick} {
		for id := range count {
			s := begun(t, "known", with(func(c *api.Config) { c.Timeout = timeout }), id)
			for from := range 8 {
				s.receive(hello(from, from), 100+from)
			}
			for d := range 10 {
				// Behind the last was heard, those are known that were heard in the timeout's time.
				if got, want := s.n.Report(107+d).Known, bounded(timeout+1-d, 0, 8); timeout < 8 && got != want {
					t.Errorf("timeout %d: %d known at %d, not %d", timeout, got, 107+d, want)
				}
				// The first one's time is over one tick behind the timeout, the next one's a tick later.
				if got, want := s.n.Report(100+timeout+d).Known, bounded(8-d, 0, 8); timeout >= 7 && got != want {
					t.Errorf("timeout %d: %d known at %d, not %d", timeout, got, 100+timeout+d, want)
				}
			}
			for now := 95; now < 120; now++ {
				s.check(now, now+timeout)
			}
		}
	}
}

// TestNow: moments of every kind, of what is received and of what is asked.
func TestNow(t *testing.T) {
	for id := range count {
		for _, now := range moments {
			s := begun(t, "now", config(), id)
			s.receive(hello(1, 0), now)
			s.receive(data(2, 1, four(1)), now)
			s.check(moments...)
			want := 0
			if now >= 0 && now <= maxNow {
				want = 2
			}
			if got := s.n.Report(now).Known; got != want {
				t.Errorf("%d known at %d, not %d", got, now, want)
			}
			if got := s.n.Report(0).Kept; (got == 1) != (id != source) {
				t.Errorf("at %d node %d keeps %d", now, id, got)
			}
		}
	}
}

// TestDraws: none, few, and more than are used; each act begins with its own.
func TestDraws(t *testing.T) {
	lists := [][]uint64{nil, {}, {0}, {1}, {0, 2}, {400000, 3}, {400000, 3, 1}, {0, 1, 2, 3, 4, 5}, {1<<64 - 1}, {1<<64 - 1, 1<<63 - 1, 1 << 63}, slices.Repeat([]uint64{900000, 7}, 300)}
	for id := range count {
		for _, held := range []int{0, 1, 4} {
			c := with(func(c *api.Config) { c.Queue, c.Target = 64, 2 })
			s := begun(t, "draws", c, id)
			for i := range held {
				s.receive(data(0, 0, four(1<<i)), 0)
			}
			for _, now := range moments[:5] {
				for _, l := range lists {
					s.act(l, now)
				}
			}
			s.pump()
		}
	}
	one := node.New(config(), source)
	for range 4 {
		one.Act([]uint64{0, 2, 0, 3}, 0)
	}
	for _, f := range frames(t, one.Pump(), near) {
		if f.Packet.Row.Vec[0] != 4 || f.Packet.Row.Data != "c" {
			t.Errorf("draws go from act to act: %v", f)
		}
	}
}

// TestDrawsBehind: without draws they are such as chapter 11 makes.
func TestDrawsBehind(t *testing.T) {
	step := uint64(0x9E3779B97F4A7C15)
	one, two := node.New(config(), source), node.New(config(), source)
	for range 3 {
		one.Act(nil, 0)
		two.Act([]uint64{step, 2 * step, 3 * step, 4 * step, 5 * step}, 0)
		if a, b := one.Pump(), two.Pump(); len(a) != 2 || !slices.Equal(a, b) {
			t.Errorf("%s and %s", shown(a), shown(b))
		}
		one.Tick(1)
		two.Tick(1)
	}
}

// TestHello: who sends one, and who a packet.
func TestHello(t *testing.T) {
	for _, x := range []struct {
		name string
		id   int
		l    []api.Packet
		kind int
	}{
		{"a source", source, nil, 2},
		{"a source that received", source, []api.Packet{four(1)}, 2},
		{"a relay that keeps none", near, nil, 1},
		{"a relay", near, []api.Packet{four(1)}, 2},
		{"a relay with a packet of 14 relays", near, []api.Packet{by(14, four(1))}, 2},
		{"a relay with a packet of 15 relays", near, []api.Packet{by(15, four(1))}, 1},
		{"a sink", sink, nil, 1},
		{"a sink that keeps some", sink, []api.Packet{four(1), four(2)}, 1},
		{"a sink that is done", sink, []api.Packet{four(1), four(2), four(4), four(8)}, 1},
	} {
		s := begun(t, x.name, config(), x.id)
		for _, p := range x.l {
			s.receive(data(0, 0, p), 0)
		}
		for inc := range 3 {
			s.act([]uint64{0}, 0)
			l := s.pump()
			if len(l) != len(s.m.to()) {
				t.Fatalf("%s: %d frames", x.name, len(l))
			}
			for i, f := range l {
				g, err := frame.Decode(f.Bytes)
				if err != api.OK || g.Kind != x.kind || g.From != x.id || g.Inc != inc || f.From != x.id || f.To != s.m.to()[i] {
					t.Errorf("%s: %v, %d", x.name, g, err)
				}
				if x.kind == 1 && f.Bytes != hello(x.id, inc) {
					t.Errorf("%s: %q is no hello", x.name, f.Bytes)
				}
			}
			s.tick(1)
			s.crash()
			for _, p := range x.l {
				s.receive(data(0, 0, p), 0)
			}
		}
	}
}

// TestFarthest: a relay that keeps a packet of 15 relays and another sends by the draw that begins with the other.
func TestFarthest(t *testing.T) {
	s := begun(t, "farthest", config(), near)
	s.receive(data(0, 0, by(15, four(1))), 0)
	s.receive(data(0, 0, four(2)), 0)
	for i, kind := range []int{1, 2, 1, 2} {
		s.act([]uint64{uint64(i)}, 0)
		s.tick(1)
		if f := frames(t, s.pump(), sink)[0]; f.Kind != kind {
			t.Errorf("draw %d: %v", i, f)
		}
	}
}

// TestFull: what a full queue does not take is gone, on each link, and what waits is as it was.
func TestFull(t *testing.T) {
	for _, queue := range []int{1, 2, 4, 256} {
		for _, id := range []int{source, near, hub, sink} {
			s := begun(t, "full", with(func(c *api.Config) { c.Queue, c.Rate = queue, 0.5 }), id)
			for i := range uint64(queue) + 3 {
				s.act([]uint64{0, i}, 0)
			}
			to := len(config().Nodes[id].To)
			if got := s.n.Report(0).Queued; got != queue*to {
				t.Errorf("node %d: %d wait, not %d", id, got, queue*to)
			}
			if got := s.pump(); len(got) != queue*to {
				t.Errorf("node %d: %d go, not %d", id, len(got), queue*to)
			}
			s.act(nil, 0)
			if got := s.pump(); len(got) != 0 || s.n.Report(0).Queued != to {
				t.Errorf("node %d: %s go without a token", id, shown(got))
			}
			s.tick(2)
			if got := s.pump(); len(got) != to {
				t.Errorf("node %d: %s go", id, shown(got))
			}
		}
	}
}

// TestTick: of every kind, on each link.
func TestTick(t *testing.T) {
	for _, rate := range []float64{0, 0.5, 1, 1.5, 1000} {
		for _, k := range ticks {
			s := begun(t, "tick", with(func(c *api.Config) { c.Rate = rate }), hub)
			for range 2 {
				for range 4 {
					s.act(nil, 0)
				}
				s.pump()
			}
			s.tick(k)
			s.pump()
			s.tick(1)
			s.pump()
			s.all()
		}
	}
}

// TestPump: link by link in the order of To, each with its frames in their order; again at once there are none.
func TestPump(t *testing.T) {
	for _, to := range [][]int{nil, {1}, {4}, {1, 2, 3, 4}, {4, 3, 2, 1}, {3, 1, 4, 2}} {
		c := with(func(c *api.Config) { c.Nodes[source].To = to })
		n := node.New(c, source)
		var texts []string
		for i := range 3 {
			n.Act([]uint64{0, uint64(i)}, 0)
			texts = append(texts, data(0, 0, four(1<<i)))
		}
		var want []api.Flight
		for _, x := range to {
			for _, s := range texts {
				want = append(want, api.Flight{From: 0, To: x, Bytes: s})
			}
		}
		if got := n.Report(0).Queued; got != 3*len(to) {
			t.Errorf("%d: %d wait", to, got)
		}
		if got := n.Pump(); !slices.Equal(got, want) {
			t.Errorf("%d: %s, not %s", to, shown(got), shown(want))
		}
		if got := n.Pump(); len(got) != 0 || n.Report(0).Queued != 0 {
			t.Errorf("%d: %s once more", to, shown(got))
		}
	}
}

// used gives a node to which much was done: links without tokens, frames that wait, members, fingerprints, rows.
func used(t *testing.T, c api.Config, id int) *subject {
	t.Helper()
	s := begun(t, "used", c, id)
	for i := range 4 {
		s.receive(data(i, i, four(1<<i)), i)
		s.act([]uint64{0, uint64(i)}, 0)
	}
	s.receive(hello(7, 9), 3)
	s.pump()
	for range 3 {
		s.act(nil, 0)
	}
	return s
}

// TestCrash: of each kind, once and more often: nothing is left but a source and the incarnation.
func TestCrash(t *testing.T) {
	for id := range count {
		for times := 1; times < 5; times++ {
			s := used(t, config(), id)
			if id == sink && s.n.Report(3) != (api.Report{Kept: 4, Rank: 4, Queued: 3, Known: 5, Done: true, Object: "abcd"}) {
				t.Fatalf("a sink that is not done: %v", s.n.Report(3))
			}
			for i := range times {
				s.crash()
				if got, want := s.n.Report(3), (api.Report{Inc: i + 1}); got != want {
					t.Errorf("node %d: %v, not %v", id, got, want)
				}
			}
			if got := s.pump(); len(got) != 0 {
				t.Errorf("node %d: %s go behind a crash", id, shown(got))
			}
			s.check(moments...)
			asNew(t, s, times)
		}
	}
}

// asNew holds a node that crashed so often against a new one: all it does is the same, but for the incarnation in its frames.
func asNew(t *testing.T, s *subject, inc int) {
	t.Helper()
	anew := node.New(s.m.c, s.m.id)
	// Incarnation 0 of a node that was heard in another one ahead is heard again, and packets that were seen are fresh.
	for i := range 6 {
		for _, text := range []string{data(i%4, 0, four(1<<(i%4))), hello(7, 0), data(2, 0, of(1, four(3))), "x"} {
			s.receive(text, 50)
			anew.Receive(text, 50)
		}
		for j := range i {
			s.act([]uint64{uint64(i), uint64(j)}, 0)
			anew.Act([]uint64{uint64(i), uint64(j)}, 0)
		}
		a, b := s.pump(), anew.Pump()
		for k := range a {
			a[k].Bytes = reborn(t, a[k].Bytes, inc, 0)
		}
		if !slices.Equal(a, b) {
			t.Errorf("node %d sends %s, a new one %s", s.m.id, shown(a), shown(b))
		}
		x, y := s.n.Report(50), anew.Report(50)
		y.Inc = inc
		if x != y {
			t.Errorf("node %d tells %v, a new one %v", s.m.id, x, y)
		}
		s.tick(1)
		anew.Tick(1)
	}
}

// reborn gives a frame of one incarnation as that of another.
func reborn(t *testing.T, text string, old, inc int) string {
	t.Helper()
	if got := int(binary.BigEndian.Uint32([]byte(text[2:6]))); got != old {
		t.Errorf("a frame of incarnation %d, not %d", got, old)
	}
	b := []byte(text[:len(text)-4])
	binary.BigEndian.PutUint32(b[2:6], uint32(inc))
	return sealed(b)
}

// TestCrashBetween: a crash while the object comes; what came ahead of it counts no more, and another object may be the first.
func TestCrashBetween(t *testing.T) {
	for _, id := range []int{near, sink} {
		s := begun(t, "between", config(), id)
		for i := range 3 {
			s.receive(data(0, 0, four(1<<i)), 0)
		}
		s.crash()
		s.receive(data(0, 0, four(8)), 0)
		if got, want := s.n.Report(0), (api.Report{Inc: 1, Kept: 1, Rank: 1, Known: 1}); got != want {
			t.Errorf("node %d: %v, not %v", id, got, want)
		}
		s.crash()
		for i := range 4 {
			s.receive(data(0, 0, of(9, four(1<<i))), 0)
		}
		want := api.Report{Inc: 2, Kept: 4, Rank: 4, Known: 1}
		if id == sink {
			want.Done, want.Object = true, "abcd"
		}
		if got := s.n.Report(0); got != want {
			t.Errorf("node %d: %v, not %v", id, got, want)
		}
	}
}

// TestSentStays (T4): what went ahead of a crash is right behind it, and so is what a source makes.
func TestSentStays(t *testing.T) {
	s, k := node.New(config(), source), node.New(config(), sink)
	var l []api.Flight
	for i := range uint64(4) {
		s.Act([]uint64{0, i}, 0)
		l = append(l, s.Pump()...)
		s.Crash()
	}
	for i, f := range frames(t, l, near) {
		if f.Inc != i || f.Packet.Row.Vec[0] != 1<<i {
			t.Errorf("%d: %v", i, f)
		}
	}
	for _, x := range l {
		k.Receive(x.Bytes, 0)
	}
	if got, want := k.Report(0), (api.Report{Kept: 4, Rank: 4, Known: 1, Done: true, Object: "abcd"}); got != want {
		t.Errorf("%v, not %v", got, want)
	}
}

// TestDone: an object of every length that a few blocks have, over a relay.
func TestDone(t *testing.T) {
	for n := range 10 {
		text := "abcdefghij"[:n]
		c := with(func(c *api.Config) { c.Object, c.Size, c.Queue, c.Cache = text, 3, 8, 8 })
		s, r, k := begun(t, "source", c, source), begun(t, "relay", c, near), begun(t, "sink", c, sink)
		blocks := max(1, (n+2)/3)
		for i := range blocks {
			s.act([]uint64{0, uint64(i)}, 0)
		}
		for _, f := range s.pump() {
			if f.To == near {
				r.receive(f.Bytes, 0)
			}
		}
		for i := range blocks {
			if got := k.n.Report(0); got.Done || got.Object != "" || got.Rank != i {
				t.Errorf("%q: %v behind %d", text, got, i)
			}
			r.act([]uint64{uint64(i)}, 0)
			for _, f := range r.pump() {
				k.receive(f.Bytes, 0)
			}
		}
		if got, want := k.n.Report(0), (api.Report{Kept: blocks, Rank: blocks, Known: 1, Done: true, Object: text}); got != want {
			t.Errorf("%q: %v, not %v", text, got, want)
		}
	}
}

// TestNil: every call of a node that is none.
func TestNil(t *testing.T) {
	var n *node.Node
	for range 2 {
		for _, x := range faults() {
			if err := n.Receive(x.text, 0); err != api.ErrArg {
				t.Errorf("%s: Receive is %d", x.name, err)
			}
		}
		for _, now := range moments {
			for _, text := range []string{hello(1, 0), data(1, 0, four(1))} {
				if err := n.Receive(text, now); err != api.ErrArg {
					t.Errorf("Receive is %d", err)
				}
			}
			n.Act(nil, now)
			n.Act([]uint64{1, 2}, now)
			if got := n.Report(now); got != (api.Report{}) {
				t.Errorf("none tells %v", got)
			}
		}
		for _, k := range ticks {
			n.Tick(k)
		}
		if got := n.Pump(); len(got) != 0 {
			t.Errorf("none sends %s", shown(got))
		}
		n.Crash()
	}
}

// anyPacket gives a packet, mostly of one object.
func anyPacket(r *rand.Rand) api.Packet {
	p := four(1 + r.Uint64N(15))
	if r.IntN(4) == 0 {
		p.Hops = r.IntN(16)
	}
	if r.IntN(10) == 0 {
		p.Object = 1 + r.IntN(2)
	}
	return p
}

// anyText gives a frame's bytes, mostly one that is right.
func anyText(r *rand.Rand) string {
	inc := r.IntN(3)
	switch r.IntN(12) {
	case 0:
		l := faults()
		return l[r.IntN(len(l))].text
	case 1, 2:
		return hello(r.IntN(8), inc)
	}
	return data(r.IntN(8), inc, anyPacket(r))
}

// anyDraws gives up to 6 draws, small ones and great ones.
func anyDraws(r *rand.Rand) []uint64 {
	l := make([]uint64, r.IntN(7))
	for i := range l {
		l[i] = r.Uint64() >> r.IntN(64)
	}
	return l
}

// anyConfig gives a config that chapter 26 takes.
func anyConfig(r *rand.Rand) api.Config {
	n := 1 + r.IntN(8)
	c := api.Config{
		Nodes: make([]api.Node, n), Object: strings.Repeat("abcd", 1+r.IntN(2)), Size: 1 + r.IntN(3), Spread: r.IntN(6), Buffer: 1 + r.IntN(6), Queue: 1 + r.IntN(5),
		Cache: r.IntN(6), Rate: 2 * r.Float64(), Timeout: r.IntN(8), Target: 1 + r.IntN(4),
	}
	for i := range c.Nodes {
		c.Nodes[i].Kind = 2 + r.IntN(2)
		for _, to := range r.Perm(n)[:r.IntN(n+1)] {
			if to != i {
				c.Nodes[i].To = append(c.Nodes[i].To, to)
			}
		}
	}
	c.Nodes[r.IntN(n)].Kind = 1
	if r.IntN(4) == 0 {
		c.Rate = rates[r.IntN(len(rates))].rate
	}
	return c
}

// TestAny: long lists of calls, on every node of some networks.
func TestAny(t *testing.T) {
	r := rand.New(rand.NewPCG(25, 1))
	for range 150 {
		c := anyConfig(r)
		for id := range c.Nodes {
			s := begun(t, "any", c, id)
			now := 0
			for range 120 {
				switch x := r.IntN(100); {
				case x < 45:
					s.receive(anyText(r), now+r.IntN(3)-1)
				case x < 65:
					s.act(anyDraws(r), now)
				case x < 80:
					k := r.IntN(3)
					now += k
					s.tick(k)
				case x < 97:
					s.pump()
				case x < 98:
					s.tick(ticks[r.IntN(len(ticks))])
				default:
					s.crash()
				}
			}
			s.all()
			if t.Failed() {
				t.Fatalf("node %d of %v", id, c)
			}
		}
	}
}

// TestEachShortList: all lists of up to 5 calls, on a node of each kind.
func TestEachShortList(t *testing.T) {
	c := with(func(c *api.Config) { c.Queue, c.Buffer, c.Cache, c.Rate, c.Timeout = 1, 2, 1, 0.5, 1 })
	calls := []func(s *subject){
		func(s *subject) { s.receive(data(1, 0, four(1)), 1) },
		func(s *subject) { s.receive(data(1, 1, four(3)), 0) },
		func(s *subject) { s.act([]uint64{0, 1}, 0) },
		(*subject).crash,
		func(s *subject) { s.tick(1) },
		func(s *subject) { s.pump() },
	}
	names := "13a!t-"
	var grow func(id int, list string)
	grow = func(id int, list string) {
		s := begun(t, list, c, id)
		for _, x := range list {
			calls[strings.IndexRune(names, x)](s)
		}
		s.act(nil, 0)
		s.pump()
		if t.Failed() {
			t.Fatalf("node %d: %q", id, list)
		}
		if len(list) < 5 {
			for i := range names {
				grow(id, list+names[i:i+1])
			}
		}
	}
	for _, id := range []int{source, near, sink} {
		grow(id, "")
	}
}

// TestConfigHandedIn (R4): a config is not changed, not behind its lists' ends either, and what becomes of it behind New is not seen.
func TestConfigHandedIn(t *testing.T) {
	for id := range count {
		c := config()
		object := []byte("-abcd-")
		c.Object = unsafe.String(&object[1], 4)
		nodes := append(slices.Clone(c.Nodes), api.Node{Kind: 99, To: []int{98}})
		to := append(slices.Clone(c.Nodes[id].To), 97)
		nodes[id].To = to[:len(to)-1]
		c.Nodes = nodes[:count]
		n := node.New(c, id)
		s := &subject{t: t, name: "handed in", n: n, m: modelled(config(), id)}
		for range 2 {
			for i := range uint64(4) {
				s.receive(data(0, 0, four(1<<i)), 0)
				s.act([]uint64{0, i}, 0)
			}
			s.pump()
			s.crash()
		}
		if want := append(config().Nodes[id].To, 97); !slices.Equal(to, want) || string(object) != "-abcd-" || nodes[count].Kind != 99 || nodes[count].To[0] != 98 {
			t.Errorf("node %d: what was handed in became %d, %q, %v", id, to, object, nodes)
		}
		clear(object)
		clear(to)
		clear(nodes)
		for range 2 {
			for i := range uint64(4) {
				s.receive(data(0, 0, four(1<<i)), 0)
				s.act([]uint64{0, i}, 0)
			}
			s.pump()
			s.crash()
		}
	}
}

// TestTextHandedIn (R4): what becomes of received bytes behind Receive is not seen, and they are not changed.
func TestTextHandedIn(t *testing.T) {
	for id := range count {
		s := begun(t, "text", config(), id)
		for i := range 4 {
			want := data(0, 0, four(1<<i))
			b := []byte(want + "-")
			s.receive(unsafe.String(&b[0], len(want)), 0)
			if string(b) != want+"-" {
				t.Errorf("what was handed in became %q", b)
			}
			clear(b)
			s.check()
		}
		s.all()
	}
}

// TestDrawsHandedIn (R4): draws are not changed, and what becomes of them behind Act is not seen.
func TestDrawsHandedIn(t *testing.T) {
	for _, id := range []int{source, near, sink} {
		s := begun(t, "draws", config(), id)
		s.receive(data(0, 0, four(1)), 0)
		s.receive(data(0, 0, four(2)), 0)
		l := []uint64{400000, 3, 2, 1, 9, 9}
		s.act(l[:4], 0)
		if !slices.Equal(l, []uint64{400000, 3, 2, 1, 9, 9}) {
			t.Errorf("what was handed in became %d", l)
		}
		clear(l)
		s.pump()
	}
}

// TestFlightsHandedOut (R4): no two texts that go share memory, and what becomes of them changes nothing.
func TestFlightsHandedOut(t *testing.T) {
	for _, id := range []int{source, hub, sink} {
		s := begun(t, "flights", config(), id)
		s.receive(data(0, 0, four(1)), 0)
		at := map[*byte]bool{}
		for range 3 {
			for range 4 {
				s.act([]uint64{0, 1}, 0)
			}
			l := s.pump()
			for _, x := range l {
				if p := unsafe.StringData(x.Bytes); at[p] {
					t.Errorf("two of node %d share memory", id)
				} else {
					at[p] = true
				}
			}
			for _, x := range l {
				clear(unsafe.Slice(unsafe.StringData(x.Bytes), len(x.Bytes)))
			}
			clear(l[:cap(l)])
			s.tick(2)
		}
		s.all()
	}
}

// TestPartHandedOut (R4): a list that went is as it was, when others go.
func TestPartHandedOut(t *testing.T) {
	n := node.New(config(), hub)
	var lists, copies [][]api.Flight
	for range 5 {
		n.Act(nil, 0)
		n.Act(nil, 0)
		l := n.Pump()
		lists, copies = append(lists, l), append(copies, slices.Clone(l))
		n.Tick(1)
	}
	n.Crash()
	n.Act(nil, 0)
	n.Pump()
	for i := range lists {
		if !slices.Equal(lists[i], copies[i]) {
			t.Errorf("%d: %s became %s", i, shown(copies[i]), shown(lists[i]))
		}
	}
}

// TestObjectHandedOut (R4): each Report's Object has memory of its own.
func TestObjectHandedOut(t *testing.T) {
	n := node.New(config(), sink)
	for i := range 4 {
		n.Receive(data(0, 0, four(1<<i)), 0)
	}
	one, two := n.Report(0).Object, n.Report(0).Object
	if one != "abcd" || two != "abcd" || unsafe.StringData(one) == unsafe.StringData(two) {
		t.Errorf("%q and %q, or they share memory", one, two)
	}
	clear(unsafe.Slice(unsafe.StringData(one), len(one)))
	if got := n.Report(0).Object; got != "abcd" || two != "abcd" {
		t.Errorf("%q, %q", got, two)
	}
}

// TestAgain (R5): the same calls on another one give the same, whatever is asked between and whatever is done to others.
func TestAgain(t *testing.T) {
	r := rand.New(rand.NewPCG(25, 2))
	for range 60 {
		c := anyConfig(r)
		id := r.IntN(len(c.Nodes))
		one, two, other := node.New(c, id), node.New(c, id), node.New(c, r.IntN(len(c.Nodes)))
		for range 150 {
			other.Receive(anyText(r), r.IntN(9))
			other.Act(anyDraws(r), 0)
			if r.IntN(3) == 0 {
				other.Pump()
				other.Crash()
			}
			two.Report(r.IntN(20))
			text, d, now, call := anyText(r), anyDraws(r), r.IntN(9), r.IntN(40)
			var a, b []api.Flight
			var e, f api.Errno
			for i, n := range []*node.Node{one, two} {
				var l []api.Flight
				var err api.Errno
				switch {
				case call < 18:
					err = n.Receive(text, now)
				case call < 28:
					// The moment makes no difference to what is sent.
					n.Act(d, now+i)
				case call < 33:
					n.Tick(now)
				case call < 39:
					l = n.Pump()
				default:
					n.Crash()
				}
				a, b, e, f = b, l, f, err
			}
			if !slices.Equal(a, b) || e != f || one.Report(now) != two.Report(now) {
				t.Fatalf("node %d of %v: %s, %d, %v and %s, %d, %v", id, c, shown(a), e, one.Report(now), shown(b), f, two.Report(now))
			}
		}
	}
}

// TestSideBySide: all nodes of one config, and some of another, do not meet.
func TestSideBySide(t *testing.T) {
	r := rand.New(rand.NewPCG(25, 3))
	var l []*subject
	shared := config()
	for id := range count {
		l = append(l, begun(t, "one", shared, id), begun(t, "again", shared, id))
		l = append(l, begun(t, "other", with(func(c *api.Config) { c.Queue, c.Buffer, c.Cache, c.Timeout, c.Rate, c.Object = 2, 2, 1, 2, 0.5, "abcd" }), id))
	}
	for range 600 {
		s := l[r.IntN(len(l))]
		switch x := r.IntN(20); {
		case x < 8:
			s.receive(anyText(r), r.IntN(9))
		case x < 13:
			s.act(anyDraws(r), 0)
		case x < 15:
			s.tick(r.IntN(3))
		case x < 19:
			s.pump()
		default:
			s.crash()
		}
		for _, other := range l {
			other.check()
		}
		if t.Failed() {
			t.FailNow()
		}
	}
}

// TestLimits: the limits are those that the tests count by.
func TestLimits(t *testing.T) {
	if api.MaxK != maxK || api.MaxCap != maxCap || api.MaxTick != maxTick || api.MaxNow != maxNow || api.MaxNodes != 8 || api.MaxHops != 15 {
		t.Error("another limit")
	}
}
