package tests

import (
	"slices"
	"testing"

	"loop.example/g00535/impl"
)

// Promise 3: joining replicas of one object does not ask who comes first, how often, or in what order; what a context
// knows is replaced, what it does not know stays.

func join(t *testing.T, a, b obj) obj {
	t.Helper()
	o, code := impl.Join(a, b)
	if code != impl.OK || !impl.ObjOK(o) {
		t.Fatal("Join", a, b, o, code)
	}
	return o
}

// What an event wrote hangs on its dot alone: so all replicas that have it have it alike.
func written(d dot) sibling {
	if (d.Node+d.N)%3 == 0 {
		return tomb(d.Node, d.N)
	}
	return live(d.Node, d.N, 100*d.Node+d.N)
}

// Of a node: up to which event is known (0 to most), and each choice of those that are still there.
func partsOf(node, most int) []obj {
	var all []obj
	for known := 0; known <= most; known++ {
		for choice := 0; choice < 1<<known; choice++ {
			var o obj
			o.Seen[node] = known
			for n := 1; n <= known; n++ {
				if choice>>(n-1)&1 == 1 {
					o.Sibs = append(o.Sibs, written(dot{Node: node, N: n}))
				}
			}
			all = append(all, o)
		}
	}
	return all
}

func smallReplicas(most vv) []obj {
	all := []obj{{}}
	for node, n := range most {
		var more []obj
		for _, o := range all {
			for _, part := range partsOf(node, n) {
				next := obj{Sibs: slices.Concat(o.Sibs, part.Sibs), Seen: o.Seen}
				next.Seen[node] = part.Seen[node]
				more = append(more, next)
			}
		}
		all = more
	}
	return all
}

// Of an event a replica knows nothing (0), has it (1), or knows that it is gone (2): joined the greatest counts.
func standing(o obj, d dot) int {
	if o.Seen[d.Node] < d.N {
		return 0
	}
	if slices.Contains(o.Sibs, written(d)) {
		return 1
	}
	return 2
}

func TestJoinTakesTheMostOfEachEvent(t *testing.T) {
	most := vv{2, 2, 1}
	all := smallReplicas(most)
	for _, a := range all {
		for _, b := range all {
			both := join(t, a, b)
			for node, last := range most {
				if both.Seen[node] != max(a.Seen[node], b.Seen[node]) {
					t.Fatal("Seen", a, b, both)
				}
				for n := 1; n <= last; n++ {
					d := dot{Node: node, N: n}
					if standing(both, d) != max(standing(a, d), standing(b, d)) {
						t.Fatal("event", d, "of", a, b, both)
					}
				}
			}
			if !alike(join(t, b, a), both) {
				t.Fatal("who comes first counts", a, b)
			}
			if !alike(join(t, both, b), both) || !alike(join(t, a, both), both) || !alike(join(t, a, a), a) {
				t.Fatal("how often counts", a, b)
			}
			for _, covering := range []struct{ a, b obj }{{both, a}, {both, b}, {a, b}, {b, a}} {
				want := alike(join(t, covering.a, covering.b), covering.a)
				if covers, code := impl.Covers(covering.a, covering.b); covers != want || code != impl.OK {
					t.Fatal("Covers", covering.a, covering.b, covers, code)
				}
			}
		}
	}
}

func TestJoinDoesNotAskForTheOrder(t *testing.T) {
	all := smallReplicas(vv{2, 1, 1})
	for _, a := range all {
		for _, b := range all {
			for _, c := range all {
				if !alike(join(t, join(t, a, b), c), join(t, a, join(t, b, c))) {
					t.Fatal(a, b, c)
				}
			}
		}
	}
}

// Each choice of what a context knows, to replicas with siblings of two nodes, and some more known than the object has.
func TestWhatAContextKnowsIsReplaced(t *testing.T) {
	for _, o := range smallReplicas(vv{2, 2, 0}) {
		for first := range 4 {
			for second := range 4 {
				ctx, d := vv{first, second, 0}, dot{Node: 2, N: 1}
				got, code := impl.Write(o, ctx, d, 7, false)
				if code != impl.OK || !impl.ObjOK(got) {
					t.Fatal("Write", o, ctx, code)
				}
				var want []sibling
				for _, s := range o.Sibs {
					if s.Dot.N > ctx[s.Dot.Node] {
						want = append(want, s)
					}
				}
				want = append(want, live(2, 1, 7))
				seen := vv{max(first, o.Seen[0]), max(second, o.Seen[1]), 1}
				if !slices.Equal(got.Sibs, want) || got.Seen != seen {
					t.Fatal("Write", o, ctx, got)
				}
				covered, code := impl.Covered(o, ctx)
				if covered != (len(want) == 1) || code != impl.OK {
					t.Fatal("Covered", o, ctx, covered, code)
				}
			}
		}
	}
}

// A history of one object: each event with what its writer knew.
type event struct {
	sibling
	ctx vv
}

type history struct {
	replicas [impl.Nodes]obj
	events   []event
	state    uint32
}

// A fixed row of numbers: each run of the tests asks the same.
func (h *history) draw(n int) int {
	h.state = h.state*1664525 + 1013904223
	return int(h.state>>16) % n
}

// A writer knows nothing, or what some replica knows; that one may be behind the one that is written, or ahead of it.
func (h *history) write(t *testing.T, node int) {
	ctx := vv{}
	if h.draw(4) > 0 {
		ctx = h.replicas[h.draw(impl.Nodes)].Seen
	}
	s := live(node, h.replicas[node].Seen[node]+1, h.draw(impl.MaxValue+1))
	if h.draw(4) == 0 {
		s = tomb(s.Dot.Node, s.Dot.N)
	}
	o, code := impl.Write(h.replicas[node], ctx, s.Dot, s.Value, s.Dead)
	if code != impl.OK || !impl.ObjOK(o) {
		t.Fatal("Write", h.replicas[node], ctx, s, code)
	}
	h.replicas[node] = o
	h.events = append(h.events, event{s, ctx})
}

// What a replica with this knowledge has: the events that it knows, and that none it knows has overwritten.
func (h *history) has(seen vv) obj {
	o := obj{Seen: seen}
events:
	for _, e := range h.events {
		if e.Dot.N > seen[e.Dot.Node] {
			continue
		}
		for _, over := range h.events {
			if over.Dot.N <= seen[over.Dot.Node] && e.Dot.N <= over.ctx[e.Dot.Node] {
				continue events
			}
		}
		o.Sibs = append(o.Sibs, e.sibling)
	}
	slices.SortFunc(o.Sibs, func(a, b sibling) int {
		k, _ := impl.OrderDots(a.Dot, b.Dot)
		return k
	})
	return o
}

func TestReplicasOfOneHistory(t *testing.T) {
	for seed := range uint32(200) {
		h := history{state: seed}
		for range 40 {
			node := h.draw(impl.Nodes)
			if h.draw(3) > 0 {
				h.write(t, node)
			} else {
				h.replicas[node] = join(t, h.replicas[node], h.replicas[h.draw(impl.Nodes)])
			}
			if !alike(h.replicas[node], h.has(h.replicas[node].Seen)) {
				t.Fatal("seed", seed, h.events, h.replicas[node])
			}
		}
		a, b, c := h.replicas[0], h.replicas[1], h.replicas[2]
		all := join(t, join(t, a, b), c)
		for i, o := range []obj{join(t, join(t, c, a), b), join(t, b, join(t, c, a)), join(t, all, a), join(t, join(t, b, all), join(t, b, c))} {
			if !alike(o, all) {
				t.Fatal("seed", seed, i, o, all)
			}
		}
	}
}
