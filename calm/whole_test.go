package calm_test

import (
	"encoding/binary"
	"fmt"
	"hash/crc32"
	"math"
	"math/big"
	"math/rand/v2"
	"slices"
	"strings"
	"testing"

	"bucketline/api"
	"bucketline/calm"
	"bucketline/decoder"
	"bucketline/frame"
	"bucketline/gauss"
	"bucketline/net"
	"bucketline/play"
)

// These are the tests of the whole: its promises T1 to T7, and its ten examples.

// sealed gives b and the library's sum of it.
func sealed(b []byte) string {
	return string(binary.BigEndian.AppendUint32(slices.Clone(b), crc32.ChecksumIEEE(b)))
}

// hello gives the bytes of a frame without a packet.
func hello(from, inc int) string {
	return sealed(binary.BigEndian.AppendUint32([]byte{1, byte(from)}, uint32(inc)))
}

// data gives the bytes of a frame with a packet of c's object, which has up to 64 blocks, each of one byte, and whose source is node 0.
func data(c api.Config, from, inc, hops int, row uint64) string {
	b := binary.BigEndian.AppendUint32([]byte{2, byte(from)}, uint32(inc))
	b = append(b, 0, 0, 0, 0, 0, 0, 0, byte(len(c.Object)), byte(len(c.Object)), 1, byte(hops))
	b = binary.BigEndian.AppendUint64(b, row)
	return sealed(append(b, sum(c.Object, row)))
}

// sum gives the xor of these bytes of an object.
func sum(object string, row uint64) byte {
	var x byte
	for i := range len(object) {
		if row>>i&1 != 0 {
			x ^= object[i]
		}
	}
	return x
}

// drawsOf gives draws by which a source of k blocks, without a spread, sends a row: the first one is that of its degree, and the others its blocks, rising.
func drawsOf(k int, row uint64) []uint64 {
	var blocks []int
	for i := range 64 {
		if row>>i&1 != 0 {
			blocks = append(blocks, i)
		}
	}
	shares := 0
	for d := 1; d < len(blocks); d++ {
		if d == 1 {
			shares += 1 << 20 / k
		} else {
			shares += 1 << 20 / (d * (d - 1))
		}
	}
	l := []uint64{uint64(shares)}
	for i, b := range blocks {
		l = append(l, uint64(b-i))
	}
	return l
}

// sends lets node 0, a source of k blocks, send these rows.
func sends(k int, rows ...uint64) []api.Event {
	var l []api.Event
	for _, row := range rows {
		l = append(l, api.Event{Kind: act, Draws: drawsOf(k, row)})
	}
	return l
}

// acts lets a node act, by no draws of the list's.
func acts(id int) []api.Event {
	return []api.Event{{Kind: act, Node: id}}
}

// ticks lets so many ticks go by.
func ticks(n int) []api.Event {
	return []api.Event{{Kind: tick, N: n}}
}

// crashes lets these nodes crash.
func crashes(nodes ...int) []api.Event {
	var l []api.Event
	for _, id := range nodes {
		l = append(l, api.Event{Kind: crash, Node: id})
	}
	return l
}

// to gives an event of a kind for each of these frames.
func to(kind int, frames ...int) []api.Event {
	var l []api.Event
	for _, n := range frames {
		l = append(l, api.Event{Kind: kind, N: n})
	}
	return l
}

// flip alters byte at of frame n.
func flip(n, at, by int) []api.Event {
	return []api.Event{{Kind: alter, N: n, At: at, By: by}}
}

// turn alters frame n, byte by byte, from what it is into another one of as many.
func turn(n int, from, into string) []api.Event {
	var l []api.Event
	for i := range len(from) {
		if from[i] != into[i] {
			l = append(l, flip(n, i, int(from[i]^into[i]))...)
		}
	}
	return l
}

// script joins scripts.
func script(parts ...[]api.Event) []api.Event {
	return slices.Concat(parts...)
}

// reported fails, unless behind the script node id tells that.
func reported(t *testing.T, name string, c api.Config, l []api.Event, id int, want api.Report) {
	t.Helper()
	if got := reports(t, c, l)[id]; got != want {
		t.Errorf("%s: node %d tells %v, not %v", name, id, got, want)
	}
}

// shown gives flights as a text that can be read.
func shown(l ...api.Flight) string {
	var b strings.Builder
	for _, x := range l {
		fmt.Fprintf(&b, "[%d to %d: %q]", x.From, x.To, x.Bytes)
	}
	return fmt.Sprintf("%d, %.900s", len(l), b.String())
}

// flown fails, unless behind the script that is under way.
func flown(t *testing.T, name string, c api.Config, l []api.Event, want ...api.Flight) {
	t.Helper()
	if got := play.Flights(c, l); !slices.Equal(got, want) {
		t.Errorf("%s: under way is %s, not %s", name, shown(got...), shown(want...))
	}
}

// rank is that of rows: each is made less by those ahead of it, and brings something anew, if it isn't 0 then.
func rank(rows []api.Row) int {
	var basis []*big.Int
	for _, r := range rows {
		v := new(big.Int)
		for i, w := range r.Vec {
			v.Or(v, new(big.Int).Lsh(new(big.Int).SetUint64(w), uint(64*i)))
		}
		for _, b := range basis {
			if x := new(big.Int).Xor(v, b); x.Cmp(v) < 0 {
				v = x
			}
		}
		if v.Sign() != 0 {
			basis = append(basis, v)
		}
	}
	return len(basis)
}

// heard is what a node, by the document's words, has of what came to it since its last start.
type heard struct {
	inc    int
	prints []string  // of its cache, the oldest first
	rows   []api.Row // those that a sink keeps; all fresh ones that came to another
	rank   int       // theirs
}

// whole is a network that is played event by event; behind each of them it is held against what the document promises of the whole.
type whole struct {
	t      *testing.T
	c      api.Config
	n      *net.Net
	blocks []string
	nodes  []heard
	way    []api.Flight // what was under way behind the last event
	events []api.Event  // all that were played
	// How much of what the tests are about came about.
	told, full, refused, mixed, emptied int
}

func begun(t *testing.T, c api.Config) *whole {
	t.Helper()
	n, err := net.New(c)
	if err != api.OK {
		t.Fatalf("no network: %d", err)
	}
	w := &whole{t: t, c: c, n: n, nodes: make([]heard, len(c.Nodes))}
	for i := range calm.Rounds(c) {
		block := make([]byte, c.Size)
		copy(block, c.Object[min(i*c.Size, len(c.Object)):])
		w.blocks = append(w.blocks, string(block))
	}
	w.look()
	return w
}

// do lets events happen one by one.
func (w *whole) do(l ...api.Event) {
	w.t.Helper()
	for _, e := range l {
		w.one(e)
	}
}

func (w *whole) one(e api.Event) {
	w.t.Helper()
	w.events = append(w.events, e)
	before := w.reports()
	done := w.n.Do(e)
	way := w.n.Flights()
	want := slices.Clone(w.way)
	i := 0
	if len(want) > 0 {
		i = modulo(e.N, len(want))
	}
	switch {
	case !done:
	case e.Kind == tick || e.Kind == act:
		// What comes, comes behind the others; each of it is looked at.
		if fresh := way[min(len(want), len(way)):]; w.fresh(e, fresh) {
			want = append(want, fresh...)
		}
	case e.Kind == deliver:
		w.receive(want[i])
		want = slices.Delete(want, i, i+1)
	case e.Kind == lose:
		want = slices.Delete(want, i, i+1)
	case e.Kind == double && len(want) < maxWay:
		want = append(want, want[i])
	case e.Kind == alter:
		b := []byte(want[i].Bytes)
		b[modulo(e.At, len(b))] ^= byte(e.By)
		want[i].Bytes = string(b)
	case e.Kind == crash:
		if before[e.Node].Kept > 0 {
			w.emptied++
		}
		w.nodes[e.Node] = heard{inc: w.nodes[e.Node].inc + 1}
	}
	if !slices.Equal(way, want) {
		w.t.Fatalf("%v of %v: under way is %s, not %s", e, w.c, shown(way...), shown(want...))
	}
	w.way = way
	w.others(e, done, before)
	w.look()
}

func (w *whole) reports() []api.Report {
	var l []api.Report
	for id := range w.c.Nodes {
		l = append(l, w.n.Report(id))
	}
	return l
}

// fresh fails, unless what was pumped at an event is what the nodes that send it may send: hellos, or packets that hold (T1), relays' made of what came to them since their last start.
func (w *whole) fresh(e api.Event, l []api.Flight) bool {
	w.t.Helper()
	for _, x := range l {
		f, err := frame.Decode(x.Bytes)
		kind := w.c.Nodes[x.From].Kind
		right := err == api.OK && f.From == x.From && f.Inc == w.nodes[x.From].inc && slices.Contains(w.c.Nodes[x.From].To, x.To)
		if f.Kind == api.FrameData {
			right = right && kind != sink && w.holds(f.Packet)
			if kind == relay {
				w.mixed++
				at := w.nodes[x.From]
				right = right && f.Packet.Hops > 0 && rank(append(slices.Clone(at.rows), f.Packet.Row)) == at.rank
			}
		} else {
			right = right && kind != source
		}
		if !right || e.Kind == act && e.Node != x.From {
			w.t.Fatalf("%v of %v: %v, %d is under way from %d to %d", e, w.c, f, err, x.From, x.To)
		}
	}
	return true
}

// holds tells whether a packet is the xor of just the source's blocks that its bits say.
func (w *whole) holds(p api.Packet) bool {
	data := make([]byte, w.c.Size)
	for i, block := range w.blocks {
		if p.Row.Vec[i/64]>>(i%64)&1 != 0 {
			for j := range data {
				data[j] ^= block[j]
			}
		}
	}
	return p.Row.Data == string(data) && p.Len == len(w.c.Object) && p.K == len(w.blocks) && p.Size == w.c.Size && w.c.Nodes[p.Object].Kind == source
}

// receive notes what comes to a node: a packet that its cache doesn't have, and of a sink that there is room for.
func (w *whole) receive(x api.Flight) {
	w.t.Helper()
	f, err := frame.Decode(x.Bytes)
	if err != api.OK {
		if err != api.ErrSum {
			w.t.Fatalf("%v: %s is refused: %d", w.c, shown(x), err)
		}
		w.refused++
		return
	}
	if f.Kind != api.FrameData {
		return
	}
	at := &w.nodes[x.To]
	f.Packet.Hops = 0
	print := fmt.Sprint(f.Packet)
	if slices.Contains(at.prints, print) {
		return
	}
	at.prints = append(at.prints, print)
	at.prints = at.prints[max(0, len(at.prints)-w.c.Cache):]
	if w.c.Nodes[x.To].Kind == sink {
		if at.rank == len(w.blocks) {
			return
		}
		if len(at.rows) == w.c.Buffer {
			w.full++
			return
		}
	}
	at.rows = append(at.rows, f.Packet.Row)
	at.rank = rank(at.rows)
}

// others fails, unless the nodes that an event is not about tell what they told ahead of it, but for who is alive.
func (w *whole) others(e api.Event, done bool, before []api.Report) {
	w.t.Helper()
	for id, x := range w.reports() {
		about := done && ((e.Kind == act || e.Kind == crash) && e.Node == id || e.Kind == tick || e.Kind == deliver)
		if about {
			continue
		}
		if x != before[id] {
			w.t.Fatalf("%v of %v: node %d told %v, and now %v", e, w.c, id, before[id], x)
		}
	}
}

// look fails, unless all nodes have what they should (T2, T3, T4), and none more than it may (T5).
func (w *whole) look() {
	w.t.Helper()
	if len(w.way) > maxWay {
		w.t.Fatalf("%d are under way", len(w.way))
	}
	for id, x := range w.reports() {
		kind, at := w.c.Nodes[id].Kind, w.nodes[id]
		right := x.Inc == at.inc && x.Kept <= w.c.Buffer && x.Queued <= w.c.Queue*len(w.c.Nodes[id].To) && x.Known < len(w.c.Nodes)
		switch kind {
		case source:
			right = right && x.Kept == 0 && x.Rank == 0 && !x.Done && x.Object == ""
		case relay:
			right = right && x.Kept == x.Rank && x.Rank <= at.rank && (x.Rank > 0) == (at.rank > 0) && !x.Done && x.Object == ""
			if w.c.Buffer >= at.rank {
				right = right && x.Rank == at.rank
			}
		case sink:
			done, want := at.rank == len(w.blocks), ""
			if done {
				want = w.c.Object
				w.told++
			}
			right = right && x.Kept == len(at.rows) && x.Rank == at.rank && x.Done == done && x.Object == want
		}
		if !right {
			w.t.Fatalf("%v behind %v: node %d tells %v, and came to it since its last start %v", w.c, w.events, id, x, at)
		}
	}
}

// end fails, unless Play, Flights and Lossless answer of the whole script what came about.
func (w *whole) end() {
	w.t.Helper()
	if got := reports(w.t, w.c, w.events); !slices.Equal(got, w.reports()) {
		w.t.Errorf("Play is %v, not %v", got, w.reports())
	}
	flown(w.t, "the end", w.c, w.events, w.way...)
	if !play.Lossless(w.c, w.events) {
		w.t.Errorf("%v of %v is not Lossless", w.events, w.c)
	}
}

// storm gives a calm, and more of it, among losses, doubles, alterations, crashes, and other things that happen about so often in a hundred events.
func storm(r *rand.Rand, c api.Config, often int) []api.Event {
	k := calm.Rounds(c)
	var l []api.Event
	for _, e := range script(calm.Script(c, k), calm.Script(c, k+r.IntN(4))) {
		for r.IntN(100) < often {
			l = append(l, trouble(r, len(c.Nodes)))
		}
		if e.Kind == deliver && r.IntN(8) > 0 {
			e.N = r.IntN(6) - 3
		}
		l = append(l, e)
	}
	for range 20 {
		l = append(l, trouble(r, len(c.Nodes)))
	}
	return l
}

// trouble gives an event that is none of a calm's, or at another time.
func trouble(r *rand.Rand, nodes int) api.Event {
	e := api.Event{Node: r.IntN(nodes), N: r.IntN(20) - 6, At: anyNumber(r), By: 1 + r.IntN(255), Draws: make([]uint64, r.IntN(7))}
	for i := range e.Draws {
		e.Draws[i] = r.Uint64() >> r.IntN(64)
	}
	switch x := r.IntN(100); {
	case x < 10:
		e.Kind, e.N = tick, r.IntN(4)
	case x < 45:
		e.Kind = act
	case x < 62:
		e.Kind = deliver
	case x < 74:
		e.Kind = lose
	case x < 84:
		e.Kind = double
	case x < 94:
		e.Kind = alter
	case x < 98:
		e.Kind = crash
	default:
		e.Kind, e.Node, e.N = anyNumber(r), anyNumber(r), anyNumber(r)
	}
	return e
}

// TestWhole (T1 to T5): storms over networks as chance has them, held against all that is promised behind each event.
func TestWhole(t *testing.T) {
	r := rand.New(rand.NewPCG(28, 10))
	var all whole
	for i := range 500 {
		c := anyConfig(r)
		if i%4 > 0 {
			for calm.Rounds(c) > c.Buffer || len(calm.Script(c, 1)) == 0 {
				c = anyConfig(r)
			}
		}
		w := begun(t, c)
		w.do(storm(r, c, 3+r.IntN(30))...)
		w.end()
		all.told, all.full, all.refused, all.mixed, all.emptied = all.told+w.told, all.full+w.full, all.refused+w.refused, all.mixed+w.mixed, all.emptied+w.emptied
	}
	if all.told < 10000 || all.full < 100 || all.refused < 300 || all.mixed < 5000 || all.emptied < 300 {
		t.Errorf("%d told, %d found no room, %d refused, %d mixed, %d emptied", all.told, all.full, all.refused, all.mixed, all.emptied)
	}
}

// TestEquations (T1): along a line each packet that is under way, waits, or is kept, is the xor of its blocks at every step, whatever was lost, doubled, altered, and crashed.
func TestEquations(t *testing.T) {
	c := line(2, 5)
	c.Buffer, c.Queue, c.Target = 3, 4, 2
	w := begun(t, c)
	w.do(script(
		sends(5, 1, 6, 31, 12, 17, 9, 21), // four go, and three wait
		to(double, 0, 1), flip(2, 25, 8), to(lose, 1),
		to(deliver, 0, 0, 0, 0), acts(1), acts(1), acts(1), to(deliver, -1), acts(2), acts(2),
		crashes(1), to(deliver, 0, 0), acts(1), ticks(2), flip(-1, 3, 1), flip(-1, 3, 1), to(deliver, 0, 0, 0, 0),
		ticks(1000), acts(1), acts(2), to(deliver, 0, 0, 0, 0, 0), acts(1), acts(2), ticks(1000),
	)...)
	w.end()
	if w.mixed < 5 || w.refused != 1 || w.emptied != 1 {
		t.Errorf("%d mixed, %d refused, %d emptied", w.mixed, w.refused, w.emptied)
	}
}

// TestTold (T2): what a sink tells is the source's object, byte by byte, of each length; among troubles, and in a calm behind them.
func TestTold(t *testing.T) {
	r := rand.New(rand.NewPCG(28, 11))
	told := 0
	for n := range 40 {
		for _, size := range []int{1, 2, 3, 7, 64} {
			if n > 10*size {
				continue
			}
			for _, object := range []string{text(n), strings.Repeat("\x00", n), strings.Repeat("\xff", n)} {
				c := line(r.IntN(3), 1)
				c.Object, c.Size, c.Buffer, c.Target, c.Cache = object, size, 40, 1+r.IntN(4), r.IntN(4)
				end := len(c.Nodes) - 1
				w := begun(t, c)
				w.do(storm(r, c, 10)...)
				if w.n.Report(end).Done {
					told++
				}
				for range w.way {
					w.do(to(lose, 0)...)
				}
				for id := range c.Nodes {
					w.do(crashes(id)...)
				}
				w.do(calm.Script(c, calm.Rounds(c))...)
				w.end()
				if got := w.n.Report(end); !got.Done || got.Object != object {
					t.Fatalf("%v: the sink tells %v", c, got)
				}
			}
		}
	}
	if told < 100 {
		t.Errorf("%d told the object", told)
	}
}

// TestJustThen (T3): all lists of up to four rows of three blocks: a sink tells the object just if their rank is 3, and its rank is just theirs; what came ahead of a crash is none of them.
func TestJustThen(t *testing.T) {
	c := line(0, 3)
	told, not := 0, 0
	var grow func(rows []uint64)
	grow = func(rows []uint64) {
		for cut := range len(rows) + 1 {
			var l []api.Event
			var kept []api.Row
			for i, row := range rows {
				if i == cut {
					l, kept = append(l, crashes(1)...), nil
				}
				l = script(l, ticks(1), sends(3, row), to(deliver, 0))
				fresh := !slices.ContainsFunc(kept, func(r api.Row) bool { return r.Vec[0] == row })
				if fresh && rank(kept) < 3 {
					kept = append(kept, api.Row{Vec: []uint64{row}})
				}
			}
			want := api.Report{Kept: len(kept), Rank: rank(kept), Known: min(len(rows), 1)}
			if cut < len(rows) {
				want.Inc = 1
			}
			if want.Rank == 3 {
				want.Done, want.Object = true, c.Object
				told++
			} else {
				not++
			}
			reported(t, fmt.Sprintf("rows %d, a crash ahead of %d", rows, cut), c, l, 1, want)
		}
		for row := uint64(1); row < 8 && len(rows) < 4; row++ {
			grow(append(slices.Clip(rows), row))
		}
	}
	grow(nil)
	if told < 1000 || not < 1000 {
		t.Errorf("%d told, %d did not", told, not)
	}
}

// TestCrashes (T4): wherever in a calm a node crashes, it is empty then, in its next incarnation; the others and what is under way are as they were, and right; and once all have crashed, a calm tells the object.
func TestCrashes(t *testing.T) {
	c := line(2, 4)
	c.Nodes[1].To, c.Nodes[2].To, c.Nodes[3].To = []int{0, 2}, []int{1, 3}, []int{2}
	c.Target, c.Queue, c.Cache = 2, 3, 9
	l := calm.Script(c, 4)
	for cut := range len(l) + 1 {
		for id := range c.Nodes {
			w := begun(t, c)
			w.do(l[:cut]...)
			way, before := w.way, w.reports()
			w.do(crashes(id)...)
			want := slices.Clone(before)
			want[id] = api.Report{Inc: 1}
			if got := w.reports(); !slices.Equal(got, want) || !slices.Equal(w.way, way) {
				t.Fatalf("a crash of %d at %d: %v, not %v; %s", id, cut, got, want, shown(w.way...))
			}
			// All that was sent comes, and then a frame in the next incarnation: a hello, unless there is a packet.
			for range w.way {
				w.do(to(deliver, 0)...)
			}
			none := id == 3 || id > 0 && len(w.nodes[id].rows) == 0
			w.do(acts(id)...)
			for _, x := range w.way {
				if f, err := frame.Decode(x.Bytes); x.From != id || f.Inc != 1 || err != api.OK || (f.Kind == api.FrameHello) != none {
					t.Fatalf("a crash of %d at %d: %v", id, cut, f)
				}
			}
			if len(w.way) != len(c.Nodes[id].To) {
				t.Fatalf("a crash of %d at %d: %s", id, cut, shown(w.way...))
			}
			for range w.way {
				w.do(to(lose, 0)...)
			}
			w.do(crashes(0, 1, 2, 3)...)
			w.do(l...)
			if got := w.n.Report(3); !got.Done || got.Object != c.Object || w.n.Report(id).Inc != 2 {
				t.Fatalf("a crash of %d at %d: in the end it is %v", id, cut, w.reports())
			}
			w.end()
		}
	}
}

// TestQueueBound (T5): what finds no room in a queue is gone, and changes nothing of what waits and goes.
func TestQueueBound(t *testing.T) {
	c := line(0, 8)
	c.Queue = 2
	first := func(rows ...uint64) []api.Flight {
		var l []api.Flight
		for _, row := range rows {
			l = append(l, api.Flight{From: 0, To: 1, Bytes: data(c, 0, 0, 0, row)})
		}
		return l
	}
	// Two tokens let two go, two wait, and two are gone.
	l := sends(8, 1, 6, 8, 48, 64, 128)
	flown(t, "two tokens", c, l, first(1, 6)...)
	reported(t, "two tokens", c, l, 0, api.Report{Queued: 2})
	flown(t, "no more tokens, however many ticks went by", c, script(ticks(1000), l), first(1, 6)...)
	flown(t, "one more", c, script(l, ticks(1)), first(1, 6, 8)...)
	reported(t, "one more", c, script(l, ticks(1)), 0, api.Report{Queued: 1})
	flown(t, "two more", c, script(l, ticks(1), ticks(1)), first(1, 6, 8, 48)...)
	flown(t, "two more at once", c, script(l, ticks(2)), first(1, 6, 8, 48)...)
	flown(t, "no more", c, script(l, ticks(1000), ticks(1000)), first(1, 6, 8, 48)...)
	flown(t, "one that was sent again", c, script(l, ticks(1), sends(8, 64), ticks(2)), first(1, 6, 8, 48, 64)...)
	w := begun(t, c)
	w.do(script(l, ticks(1), sends(8, 64), ticks(2), to(deliver, 0, 0, 0, 0, 0))...)
	w.end()
}

// TestBufferBound (T5): a relay's row that goes for another changes none of the others; a sink that is full keeps what it has.
func TestBufferBound(t *testing.T) {
	c := line(1, 4)
	c.Buffer = 3
	for _, rows := range [][]uint64{{6, 1, 8}, {1, 6, 8}, {1, 8, 6}, {8, 1, 6}, {8, 6, 1}, {6, 8, 1}} {
		name := fmt.Sprint("behind ", rows)
		var l []api.Event
		for _, row := range append(rows, 2) {
			l = script(l, ticks(9), sends(4, row), to(deliver, 0))
		}
		reported(t, name, c, l, 1, api.Report{Kept: 3, Rank: 3, Known: 1})
		left := append(slices.DeleteFunc(rows, func(row uint64) bool { return row == 6 }), 2)
		for i, row := range left {
			mix := []api.Event{{Kind: act, Node: 1, Draws: []uint64{uint64(i)}}}
			flown(t, name, c, script(l, mix), api.Flight{From: 1, To: 2, Bytes: data(c, 1, 0, 1, row)})
		}
	}
	var l []api.Event
	c = line(0, 4)
	c.Buffer = 2
	for i, row := range []uint64{1, 6, 8, 4, 15} {
		l = script(l, ticks(9), sends(4, row), to(deliver, 0))
		reported(t, fmt.Sprint("a full sink, ", i), c, l, 1, api.Report{Kept: min(i+1, 2), Rank: min(i+1, 2), Known: 1})
	}
}

// TestCacheBound (T5): the oldest fingerprint goes for a new one, and no other.
func TestCacheBound(t *testing.T) {
	for most := range 4 {
		c := line(0, 8)
		c.Cache = most
		w := begun(t, c)
		for _, row := range []uint64{1, 1, 2, 1, 2, 3, 1, 2, 3, 3, 4, 2, 3, 4, 1} {
			w.do(script(ticks(1), sends(8, row), to(deliver, 0))...)
		}
		w.end()
		if got, want := w.n.Report(1).Kept, []int{15, 13, 11, 5}[most]; got != want {
			t.Errorf("a cache of %d: %d are kept, not %d", most, got, want)
		}
	}
}

// TestWayBound (T5): what finds no room among those that are under way is lost, and changes none of them.
func TestWayBound(t *testing.T) {
	c := line(0, 8)
	c.Queue, c.Rate = 256, 1000
	var l []api.Event
	for i := range maxWay - 1 {
		l = script(l, ticks(1), sends(8, uint64(1+i%255)))
	}
	w := begun(t, c)
	w.do(l...)
	if len(w.way) != maxWay-1 {
		t.Fatalf("%d are under way", len(w.way))
	}
	w.do(script(to(double, 7), to(double, 8), sends(8, 99), ticks(1), to(double, -1), flip(-1, 9, 9), sends(8, 98))...)
	if len(w.way) != maxWay || w.way[maxWay-2] != (api.Flight{From: 0, To: 1, Bytes: data(c, 0, 0, 0, uint64(1+(maxWay-2)%255))}) {
		t.Fatalf("%d are under way", len(w.way))
	}
	w.do(script(to(lose, 3), sends(8, 97), sends(8, 96), to(deliver, 4, 4), ticks(5), sends(8, 95))...)
	if got := w.way[maxWay-2:]; len(got) != 1 || got[0].Bytes != data(c, 0, 0, 0, 95) {
		t.Errorf("behind all is %s", shown(got...))
	}
	w.end()
}

// TestCalmRank (T6): in a calm the sink has, behind each round, one row more than ahead of it, and the object behind the last.
func TestCalmRank(t *testing.T) {
	r := rand.New(rand.NewPCG(28, 12))
	for range 150 {
		relays, blocks := r.IntN(6), 1+r.IntN(10)
		c := line(relays, blocks)
		c.Target, c.Cache, c.Spread = 1+r.IntN(12), r.IntN(4), r.IntN(4)
		w := begun(t, c)
		for i, e := range calm.Script(c, blocks) {
			w.do(e)
			n := (i + 1) / (10 * (relays + 1))
			if got := w.n.Report(relays + 1); (i+1)%(10*(relays+1)) == 0 && (got.Rank != n || got.Done != (n == blocks)) {
				t.Fatalf("%v: behind round %d the sink tells %v", c, n, got)
			}
		}
		w.end()
	}
}

// within fails, unless what is under way is refused or read within its bounds, and no node has more than it may (T7).
func within(t *testing.T, c api.Config, n *net.Net) (refused int) {
	t.Helper()
	for _, x := range n.Flights() {
		f, err := frame.Decode(x.Bytes)
		p := f.Packet
		switch {
		case err == api.ErrSize || err == api.ErrSyntax || err == api.ErrSum:
			refused++
			if !frame.Same(f, api.Frame{}) {
				t.Fatalf("beside %d stands %v", err, f)
			}
		case err != api.OK || f.From < 0 || f.From > 7 || f.Inc < 0 || f.Inc > math.MaxUint32 || f.Kind != api.FrameHello && f.Kind != api.FrameData:
			t.Fatalf("%s is %v, %d", shown(x), f, err)
		case f.Kind == api.FrameHello:
		case p.K < 1 || p.K > 128 || p.Size < 1 || p.Size > 64 || p.Len < 0 || p.Len > p.K*p.Size || p.Hops < 0 || p.Hops > 15 || len(p.Row.Vec) != (p.K+63)/64 || len(p.Row.Data) != p.Size || rank([]api.Row{p.Row}) == 0:
			t.Fatalf("%s is %v", shown(x), p)
		}
	}
	for id := range c.Nodes {
		x := n.Report(id)
		if x.Inc < 0 || x.Kept < 0 || x.Kept > c.Buffer || x.Rank < 0 || x.Rank > min(x.Kept, maxK) || x.Queued < 0 || x.Queued > c.Queue*len(c.Nodes[id].To) || x.Known < 0 || x.Known > maxNodes || len(x.Object) > 64*maxK || x.Done && c.Nodes[id].Kind != sink {
			t.Fatalf("%v: node %d tells %v", c, id, x)
		}
	}
	return refused
}

// forged gives another frame of as many bytes, whose sum is right; mostly one that is much like it.
func forged(r *rand.Rand, s string) string {
	b := []byte(s[:len(s)-4])
	for range 1 + r.IntN(4) {
		at := r.IntN(len(b))
		switch r.IntN(4) {
		case 0:
			b[at] = byte(r.Uint32())
		case 1:
			b[at] = []byte{0, 1, 2, 3, 15, 16, 64, 65, 128, 129, 255}[r.IntN(11)]
		case 2:
			b[at] ^= 1 << r.IntN(8)
		case 3:
			b[at]++
		}
	}
	if r.IntN(20) == 0 {
		for i := range b {
			b[i] = byte(r.Uint32())
		}
	}
	return sealed(b)
}

// TestForged (T7): frames of any bytes, with right sums too, come to nodes of all kinds: nothing panics, each is refused or read within its bounds, and no node has more than it may.
func TestForged(t *testing.T) {
	r := rand.New(rand.NewPCG(28, 13))
	var refused, passed int
	for range 400 {
		c := anyConfig(r)
		n, err := net.New(c)
		if err != api.OK {
			t.Fatal(err)
		}
		var l []api.Event
		for _, e := range storm(r, c, 20) {
			n.Do(e)
			l = append(l, e)
			way := n.Flights()
			if len(way) == 0 || r.IntN(3) > 0 {
				continue
			}
			i := r.IntN(len(way))
			s := forged(r, way[i].Bytes)
			for _, e := range turn(i, way[i].Bytes, s) {
				n.Do(e)
				l = append(l, e)
			}
			if got := n.Flights()[i].Bytes; got != s {
				t.Fatalf("%q is %q", s, got)
			}
			if f, err := frame.Decode(s); err == api.OK && frame.Check(f) == api.OK {
				passed++
			}
			refused += within(t, c, n)
		}
		within(t, c, n)
		got := reports(t, c, l)
		for id, x := range got {
			if x != n.Report(id) {
				t.Fatalf("node %d tells %v, not %v", id, n.Report(id), x)
			}
		}
		flown(t, "the end", c, l, n.Flights()...)
	}
	if refused < 2000 || passed < 600 {
		t.Errorf("%d were refused, %d passed", refused, passed)
	}
}

// TestWild (T7): events of any numbers, over networks as chance has them.
func TestWild(t *testing.T) {
	r := rand.New(rand.NewPCG(28, 14))
	for range 1500 {
		c := wild(r)
		l := make([]api.Event, r.IntN(60))
		for i := range l {
			l[i] = api.Event{Kind: 1 + r.IntN(7), Node: anyNumber(r), N: anyNumber(r), At: anyNumber(r), By: anyNumber(r), Draws: []uint64{r.Uint64(), r.Uint64()}}
			if r.IntN(2) == 0 {
				l[i].Kind, l[i].Node = act, r.IntN(8)
			}
			if r.IntN(20) == 0 {
				l[i].Kind = anyNumber(r)
			}
		}
		n, err := net.New(c)
		if got, e := play.Play(c, l); e != err || err != api.OK && (len(got) != 0 || n != nil) {
			t.Fatalf("%v: %v, %d, not %d", c, got, e, err)
		}
		if err != api.OK {
			continue
		}
		for _, e := range l {
			n.Do(e)
			within(t, c, n)
		}
	}
}

// TestExample1 is the whole's: an object "ab" in blocks of 1 byte: a, b; the packet of both: a xor b, 3.
func TestExample1(t *testing.T) {
	c := config(node(source, 1), node(sink))
	for row, want := range map[uint64]string{1: "a", 2: "b", 3: "\x03"} {
		way := play.Flights(c, sends(2, row))
		if len(way) != 1 || way[0].Bytes != data(c, 0, 0, 0, row) {
			t.Fatalf("row %d: %s", row, shown(way...))
		}
		f, err := frame.Decode(way[0].Bytes)
		if err != api.OK || f.Packet.Row.Data != want || !slices.Equal(f.Packet.Row.Vec, []uint64{row}) || f.Packet.K != 2 || f.Packet.Len != 2 {
			t.Errorf("row %d: %v, %d", row, f, err)
		}
	}
}

// came gives a script in which these rows of two blocks come from node 0 to the next.
func came(rows ...uint64) []api.Event {
	var l []api.Event
	for _, row := range rows {
		l = script(l, ticks(1), sends(2, row), to(deliver, 0))
	}
	return l
}

// TestExample2 is the whole's: rows 1 and 3 have rank 2: both blocks are told; in each order, doubled, and among losses and frames that are altered.
func TestExample2(t *testing.T) {
	c := config(node(source, 1), node(sink))
	if blocks, ok := gauss.Decode(2, []api.Row{{Vec: []uint64{1}, Data: "a"}, {Vec: []uint64{3}, Data: "\x03"}}); !ok || !slices.Equal(blocks, []string{"a", "b"}) {
		t.Errorf("%q, %v", blocks, ok)
	}
	want := api.Report{Kept: 2, Rank: 2, Known: 1, Done: true, Object: "ab"}
	reported(t, "1, 3", c, came(1, 3), 1, want)
	reported(t, "3, 1", c, came(3, 1), 1, want)
	reported(t, "3, 1, 3", c, came(3, 1, 3), 1, want)
	reported(t, "one of them doubled", c, script(came(1), ticks(1), sends(2, 3), to(double, 0), to(deliver, 1, 0)), 1, want)
	reported(t, "one was lost ahead", c, script(came(1), ticks(1), sends(2, 3), to(lose, 0), came(3)), 1, want)
	reported(t, "one is altered, its double not", c, script(came(1), ticks(1), sends(2, 3), to(double, 0), flip(0, 4, 4), to(deliver, 0, 0)), 1, want)
	reported(t, "one is altered", c, script(came(1), ticks(1), sends(2, 3), flip(0, 4, 4), to(deliver, 0)), 1, api.Report{Kept: 1, Rank: 1, Known: 1})
	reported(t, "a crash between", c, script(came(1), crashes(1), came(3)), 1, api.Report{Inc: 1, Kept: 1, Rank: 1, Known: 1})
}

// TestExample3 is the whole's: rows 3 and 3: rank 1; the second is kept only where the cache is none.
func TestExample3(t *testing.T) {
	c := config(node(source, 1), node(sink))
	if n := gauss.Rank([]api.Row{{Vec: []uint64{3}, Data: "\x03"}, {Vec: []uint64{3}, Data: "\x03"}}); n != 1 {
		t.Errorf("rank %d", n)
	}
	reported(t, "a cache", c, came(3, 3), 1, api.Report{Kept: 1, Rank: 1, Known: 1})
	reported(t, "doubled", c, script(came(), sends(2, 3), to(double, 0), to(deliver, 0, 0)), 1, api.Report{Kept: 1, Rank: 1, Known: 1})
	c.Cache = 0
	reported(t, "no cache", c, came(3, 3), 1, api.Report{Kept: 2, Rank: 1, Known: 1})
	reported(t, "doubled, no cache", c, script(sends(2, 3), to(double, 0), to(deliver, 0, 0)), 1, api.Report{Kept: 2, Rank: 1, Known: 1})
}

// TestExample4 is the whole's: a frame with one bit altered: ErrSum; each bit, of a packet's and of a hello, and nobody takes it.
func TestExample4(t *testing.T) {
	c := config(node(source, 1), node(sink, 0))
	for from, begin := range [][]api.Event{sends(2, 3), acts(1)} {
		s := play.Flights(c, begin)[0].Bytes
		for bit := range 8 * len(s) {
			l := script(begin, flip(0, bit/8, 1<<(bit%8)))
			way := play.Flights(c, l)
			if f, err := frame.Decode(way[0].Bytes); err != api.ErrSum || !frame.Same(f, api.Frame{}) || way[0].Bytes == s {
				t.Errorf("bit %d: %v, %d", bit, f, err)
			}
			reported(t, fmt.Sprint("bit ", bit), c, script(l, to(deliver, 0)), 1-from, api.Report{})
			if !play.Lossless(c, l) {
				t.Errorf("bit %d: not Lossless", bit)
			}
		}
	}
}

// TestExample5 is the whole's: a relay with an empty buffer sends no packet, but a hello; once it has one it sends that, one relay further.
func TestExample5(t *testing.T) {
	c := line(1, 2)
	empty := api.Flight{From: 1, To: 2, Bytes: hello(1, 0)}
	flown(t, "at first", c, acts(1), empty)
	flown(t, "with draws", c, []api.Event{{Kind: act, Node: 1, Draws: []uint64{0, 1, 2}}}, empty)
	flown(t, "a packet is under way", c, script(sends(2, 3), acts(1)), api.Flight{From: 0, To: 1, Bytes: data(c, 0, 0, 0, 3)}, empty)
	flown(t, "a packet was lost", c, script(sends(2, 3), to(lose, 0), acts(1)), empty)
	flown(t, "a packet was altered", c, script(sends(2, 3), flip(0, 9, 1), to(deliver, 0), acts(1)), empty)
	flown(t, "a packet came", c, script(sends(2, 3), to(deliver, 0), acts(1)), api.Flight{From: 1, To: 2, Bytes: data(c, 1, 0, 1, 3)})
	reported(t, "the hello came", c, script(acts(1), to(deliver, 0)), 2, api.Report{Known: 1})
}

// TestExample6 is the whole's: a relay that crashed: empty, incarnation 1; what it sent stays right.
func TestExample6(t *testing.T) {
	c := line(1, 2)
	l := script(sends(2, 3), to(deliver, 0), acts(1))
	reported(t, "ahead of it", c, l, 1, api.Report{Kept: 1, Rank: 1, Known: 1})
	sent := api.Flight{From: 1, To: 2, Bytes: data(c, 1, 0, 1, 3)}
	l = script(l, crashes(1))
	reported(t, "a crash", c, l, 1, api.Report{Inc: 1})
	flown(t, "a crash", c, l, sent)
	flown(t, "a crash, and it acts", c, script(l, acts(1)), sent, api.Flight{From: 1, To: 2, Bytes: hello(1, 1)})
	reported(t, "what it sent comes", c, script(l, to(deliver, 0)), 2, api.Report{Kept: 1, Rank: 1, Known: 1})
	reported(t, "two crashes", c, script(l, crashes(1)), 1, api.Report{Inc: 2})
	l = script(l, ticks(1), sends(2, 3), to(deliver, 1), acts(1))
	reported(t, "the same packet again", c, l, 1, api.Report{Inc: 1, Kept: 1, Rank: 1, Known: 1})
	flown(t, "the same packet again", c, l, sent, api.Flight{From: 1, To: 2, Bytes: data(c, 1, 1, 1, 3)})
}

// TestExample7 is the whole's: a rate that is not a number: no tokens but those of the beginning, and of each start.
func TestExample7(t *testing.T) {
	c := line(0, 8)
	c.Rate, c.Queue = math.NaN(), 2
	one, two, three := api.Flight{From: 0, To: 1, Bytes: data(c, 0, 0, 0, 1)}, api.Flight{From: 0, To: 1, Bytes: data(c, 0, 0, 0, 2)}, api.Flight{From: 0, To: 1, Bytes: data(c, 0, 1, 0, 5)}
	l := sends(8, 1, 2, 3, 4, 5)
	flown(t, "at once", c, l, one, two)
	flown(t, "behind ticks", c, script(l, ticks(1000), ticks(1<<20), ticks(math.MaxInt)), one, two)
	flown(t, "behind ticks ahead", c, script(ticks(1<<20), l), one, two)
	reported(t, "behind ticks", c, script(l, ticks(1<<20)), 0, api.Report{Queued: 2})
	flown(t, "behind a crash", c, script(l, crashes(0), ticks(1000), sends(8, 5)), one, two, three)
	c.Rate = 0.001
	flown(t, "a rate", c, script(sends(8, 1, 2), ticks(999)), one, two)
	flown(t, "a rate, one", c, script(sends(8, 1, 2, 1), ticks(1000)), one, two, one)
}

// TestExample8 is the whole's: a packet of 15 relays goes no further: two relays hand one on, each of which crashes ahead of its coming again.
func TestExample8(t *testing.T) {
	c := config(node(source, 1), node(relay, 2), node(relay, 1))
	l := script(sends(2, 3), to(deliver, 0))
	incs := []int{0, 0, 0}
	for hops := 1; hops <= 15; hops++ {
		from, next := 2-hops%2, 1+hops%2
		l = script(l, ticks(9), acts(from))
		flown(t, fmt.Sprint(hops, " relays"), c, l, api.Flight{From: from, To: next, Bytes: data(c, from, incs[from], hops, 3)})
		l = script(l, crashes(next), to(deliver, 0))
		incs[next]++
		reported(t, fmt.Sprint(hops, " relays"), c, l, next, api.Report{Inc: incs[next], Kept: 1, Rank: 1, Known: 1})
	}
	l = script(l, ticks(9), acts(2))
	flown(t, "no further", c, l, api.Flight{From: 2, To: 1, Bytes: hello(2, incs[2])})
	reported(t, "no further, but kept", c, l, 2, api.Report{Inc: incs[2], Kept: 1, Rank: 1})
}

// TestExample9 is the whole's: a sink whose store is full: ErrFull, and no more is kept.
func TestExample9(t *testing.T) {
	c := line(0, 4)
	c.Buffer = 3
	d := decoder.New(3)
	var l []api.Event
	for i, row := range []uint64{1, 6, 8, 4, 2} {
		l = script(l, ticks(1), sends(4, row))
		f, err := frame.Decode(play.Flights(c, l)[0].Bytes)
		if err != api.OK {
			t.Fatal(err)
		}
		want := api.OK
		if i >= 3 {
			want = api.ErrFull
		}
		if err := d.Put(f.Packet); err != want || d.Kept() != min(i+1, 3) || d.Over() != (i >= 3) || d.Done() {
			t.Errorf("row %d: %d, %d are kept", row, err, d.Kept())
		}
		l = script(l, to(deliver, 0))
		reported(t, fmt.Sprint("row ", row), c, l, 1, api.Report{Kept: min(i+1, 3), Rank: min(i+1, 3), Known: 1})
	}
	c.Buffer = 4
	reported(t, "room for one more", c, l, 1, api.Report{Kept: 4, Rank: 4, Known: 1, Done: true, Object: c.Object})
}

// TestExample10 is the whole's: the calm of 4 rounds: 4 blocks are there; and not behind fewer, nor behind one frame of them lost.
func TestExample10(t *testing.T) {
	for relays := range 7 {
		c := line(relays, 4)
		done := api.Report{Kept: 4, Rank: 4, Known: 1, Done: true, Object: c.Object}
		reported(t, "4 rounds", c, calm.Script(c, 4), relays+1, done)
		reported(t, "3 rounds", c, calm.Script(c, 3), relays+1, api.Report{Kept: 3, Rank: 3, Known: 1})
		l := calm.Script(c, 4)
		last := len(l) - 8
		lost := script(l[:last], to(lose, 0), l[last:])
		reported(t, "the last one lost", c, lost, relays+1, api.Report{Kept: 3, Rank: 3})
		reported(t, "the last one lost, and a round more", c, script(lost, l[len(l)-10:]), relays+1, done)
		reported(t, "the last one doubled", c, script(l[:last], to(double, 0), l[last:]), relays+1, done)
		reported(t, "the last one altered", c, script(l[:last], flip(0, -1, 1), l[last:]), relays+1, api.Report{Kept: 3, Rank: 3})
		reported(t, "a crash of the sink", c, script(l, crashes(relays+1)), relays+1, api.Report{Inc: 1})
		again := done
		again.Inc = 1
		reported(t, "a crash of the sink, and the calm again", c, script(l, crashes(relays+1), calm.Script(c, 4)), relays+1, again)
	}
}
