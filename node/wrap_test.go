package node

import (
	"testing"

	"bucketline/api"
	"bucketline/frame"
)

// TestWrap: behind the last of 2^32 incarnations comes 0. No list of calls goes as far in a test's time, so the node is set there.
func TestWrap(t *testing.T) {
	for _, kind := range []int{api.NodeSource, api.NodeRelay, api.NodeSink} {
		c := api.Config{Nodes: []api.Node{{Kind: kind, To: []int{1}}, {Kind: api.NodeSink}}, Object: "ab", Size: 1, Buffer: 1, Queue: 1, Target: 1}
		n := New(c, 0)
		n.inc = 1<<32 - 2
		for _, want := range []int{1<<32 - 1, 0, 1} {
			n.Crash()
			n.Act(nil, 0)
			l := n.Pump()
			if len(l) != 1 {
				t.Fatalf("kind %d, incarnation %d: %d frames go", kind, want, len(l))
			}
			f, err := frame.Decode(l[0].Bytes)
			if got := n.Report(0).Inc; got != want || err != api.OK || f.Inc != want {
				t.Errorf("kind %d: incarnation %d, in a frame %d, not %d", kind, got, f.Inc, want)
			}
		}
	}
}
