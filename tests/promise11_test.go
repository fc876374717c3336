package tests

import (
	"slices"
	"testing"

	"loop.example/g00535/impl"
)

// Promise 11, of clusters that calls made of a new one: exchanged two nodes are alike; hints reach those that are up
// again; settled the owners of each key have the same; what was put without knowing of one another stands beside; what
// was deleted with all known does not come back (as long as there is room).

// An event of a key, with what it knew.
type keyEvent struct {
	event
	key string
}

// A run of puts, messages, crashes and repairs, beside all events that there were.
type repairRun struct {
	clusterRun
	events []keyEvent
}

func newRepairRun(t *testing.T, seed uint32) *repairRun {
	t.Helper()
	return &repairRun{clusterRun: *newClusterRun(t, seed)}
}

func (r *repairRun) drawRepair() act {
	switch r.draw(12) {
	case 0, 1, 2, 3:
		return exchangeAct(r.drawNode(), r.drawNode())
	case 4, 5, 6:
		return handoffAct(r.drawNode())
	case 7, 8, 9:
		return repairAct(r.drawKey())
	case 10:
		return convergedAct()
	}
	return settleAct()
}

// do asks one act, and keeps the event if one came of it.
func (r *repairRun) do(t *testing.T, a act) {
	t.Helper()
	before := r.plainCluster
	r.plainCluster = a.asTold(t, before)
	for id, x := range r.nodes {
		if x.count == before.nodes[id].count {
			continue
		}
		last := x.feed[len(x.feed)-1]
		for _, s := range x.objs[last.Key].Sibs {
			if s.Dot == last.Dot {
				r.events = append(r.events, keyEvent{event{s, a.knew(before)}, last.Key})
			}
		}
	}
}

// repairs is how many of the acts, of ten, are repairs.
func (r *repairRun) run(t *testing.T, steps, repairs int) {
	t.Helper()
	for range steps {
		if r.draw(10) < repairs {
			r.do(t, r.drawRepair())
		} else {
			r.do(t, r.drawAct())
		}
	}
}

// standing has the key's events that no other one of it knew.
func (r *repairRun) standing(key string) []sibling {
	var o obj
events:
	for _, e := range r.events {
		if e.key != key {
			continue
		}
		for _, over := range r.events {
			if over.key == key && e.Dot.N <= over.ctx[e.Dot.Node] {
				continue events
			}
		}
		o.Sibs = append(o.Sibs, e.sibling)
	}
	return inOrder(o).Sibs
}

// Runs without repairs, with some, and with many.
func repairRuns(t *testing.T, seeds uint32, steps int) []*repairRun {
	t.Helper()
	var all []*repairRun
	for seed := range seeds {
		r := newRepairRun(t, seed+9000)
		r.run(t, steps, int(seed%3)*2)
		all = append(all, r)
	}
	return all
}

func TestRunsWithRepairsAreAsTold(t *testing.T) {
	for seed := range uint32(100) {
		newRepairRun(t, seed).run(t, 70, 4)
	}
}

var nodePairs = [][2]int{{0, 1}, {1, 0}, {0, 2}, {2, 0}, {1, 2}, {2, 1}}

func allUp(t *testing.T, c cluster) cluster {
	t.Helper()
	for id, up := range c.Up {
		if !up {
			c = backAct(id).got(t, c, impl.OK)
		}
	}
	return c
}

// at is what a node answers of a key.
func at(t *testing.T, c cluster, id int, key string) obj {
	t.Helper()
	o, code := impl.ObjAt(c.Nodes[id], key)
	if code != impl.OK {
		t.Fatal("ObjAt", id, key, code)
	}
	return o
}

// Exchanged two nodes are alike in all keys that both own, with all that either had; once more nothing changes.
func TestExchangedNodesAreAlike(t *testing.T) {
	for _, r := range repairRuns(t, 60, 60) {
		c := allUp(t, r.cluster())
		for _, pair := range nodePairs {
			a, b := pair[0], pair[1]
			got, count, code := impl.Exchange(c, a, b)
			changed := 0
			for _, key := range clusterKeys {
				if ownersTold(key)[2] == a || ownersTold(key)[2] == b {
					continue
				}
				hadA, hadB, hasA, hasB := at(t, c, a, key), at(t, c, b, key), at(t, got, a, key), at(t, got, b, key)
				if !alike(hasA, hasB) || !alike(hasA, joinedTold(hadA, hadB)) {
					t.Fatal("Exchange", pair, key, hadA, hadB, hasA, hasB)
				}
				for _, had := range []obj{hadA, hadB} {
					if !alike(had, hasA) {
						changed++
					}
				}
			}
			if code != impl.OK || count != changed {
				t.Fatal("Exchange", pair, count, code, "not", changed)
			}
			for _, again := range [][2]int{{a, b}, {b, a}} {
				if same, count, code := impl.Exchange(got, again[0], again[1]); count != 0 || code != impl.OK || !alikeClusters(same, got) {
					t.Fatal("Exchange again", again, count, code, short(same), short(got))
				}
			}
		}
	}
}

// Whichever of two nodes is named first, they come by the same.
func TestAnExchangeDoesNotAskWhoIsFirst(t *testing.T) {
	for _, r := range repairRuns(t, 40, 60) {
		c := allUp(t, r.cluster())
		for _, pair := range nodePairs {
			one, count, _ := impl.Exchange(c, pair[0], pair[1])
			other, back, _ := impl.Exchange(c, pair[1], pair[0])
			if count != back || !alikeClusters(one, other) {
				t.Fatal("Exchange", pair, count, back)
			}
		}
	}
}

// One node is down for long; others put, and leave hints for it. Up again it gets them.
func TestHintsReachThoseThatAreUpAgain(t *testing.T) {
	reached := 0
	for seed := range uint32(60) {
		r := newRepairRun(t, seed+400)
		r.run(t, 30, 1)
		r.plainCluster.up = [impl.Nodes]bool{true, true, true}
		down := r.draw(impl.Nodes)
		r.do(t, crashAct(down, 0, 0))
		before := len(r.events)
		for range 20 {
			node, key := (down+1+r.draw(2))%impl.Nodes, r.drawKey()
			r.do(t, putAct(node, key, r.drawContext(key), r.draw(impl.MaxValue+1), false))
			r.do(t, handoffAct(node)) // as long as it is down its hints stay
		}
		waiting := slices.Clone(r.hints)
		r.do(t, backAct(down))
		for id := range impl.Nodes {
			r.do(t, handoffAct(id))
		}
		if len(r.hints) != 0 {
			t.Fatal("hints are left", r.hints)
		}
		c := r.cluster()
		for _, h := range waiting {
			if got := at(t, c, h.To, h.Key); !coversTold(got, h.Obj) {
				t.Fatal("a hint did not reach its node", h, got)
			}
		}
		for _, e := range r.events[before:] {
			if ownersTold(e.key)[2] == down {
				continue
			}
			if got := at(t, c, down, e.key); e.Dot.N > got.Seen[e.Dot.Node] {
				t.Fatal("what was put meanwhile did not come", e, got)
			}
			reached++
		}
	}
	if reached < 200 {
		t.Error("too few hints are asked for:", reached)
	}
}

// By hand: what was put while a node was down is there when it is up, and its hint has been handed over, and not ahead.
func TestAHintByHand(t *testing.T) {
	c := crashAct(1, 0, 0).got(t, impl.NewCluster(), impl.OK)
	c = putAct(0, "a", vv{}, 5, false).got(t, c, impl.OK)
	c = putAct(2, "b", vv{}, 6, false).got(t, c, impl.OK)
	c = putAct(0, "a", vv{1}, 7, false).got(t, c, impl.OK)
	for id, want := range []int{impl.OK, impl.ErrDown, impl.OK} {
		if got, n, code := impl.Handoff(c, id); n != 0 || code != want || !alikeClusters(got, c) {
			t.Error("Handoff", id, n, code)
		}
	}
	c = backAct(1).got(t, c, impl.OK)
	keyHolds(t, c, "a", "2.0.0|a2=7", none, none)
	got, n, code := impl.Handoff(c, 2)
	if n != 2 || code != impl.OK || len(got.Hints) != 1 {
		t.Error("Handoff", n, code, got.Hints)
	}
	keyHolds(t, got, "a", "2.0.0|a2=7", "2.0.0|a2=7", none)
	keyHolds(t, got, "b", none, none, "0.0.1|c1=6")
	got, n, code = impl.Handoff(got, 0)
	if n != 1 || code != impl.OK || len(got.Hints) != 0 {
		t.Error("Handoff", n, code, got.Hints)
	}
	keyHolds(t, got, "b", none, "0.0.1|c1=6", "0.0.1|c1=6")
	// it is sure: a crash takes nothing of it
	keyHolds(t, crashAct(1, 0, 0).got(t, got, impl.OK), "b", none, "0.0.1|c1=6", "0.0.1|c1=6")
}

// settle asks that both owners of each key have what all events make, whatever came ahead; that a settled cluster is
// converged, and settles to itself.
func (r *repairRun) settle(t *testing.T) cluster {
	t.Helper()
	c, code := impl.SettleAll(r.cluster())
	if code != impl.OK || !impl.ClusterOK(c) || !slices.Equal(c.Up, []bool{true, true, true}) || len(c.Hints) != 0 || !alikeMsgs(c.Net, r.net) {
		t.Fatal("SettleAll", code, short(c))
	}
	if yes, code := impl.Converged(c); !yes || code != impl.OK {
		t.Fatal("Converged", yes, code)
	}
	for _, key := range clusterKeys {
		owners := ownersTold(key)
		first, second := at(t, c, owners[0], key), at(t, c, owners[1], key)
		if !alike(first, second) {
			t.Fatal("settled owners are not alike", key, first, second)
		}
		if !slices.Equal(first.Sibs, r.standing(key)) {
			t.Fatal("settled", key, first, "not", r.standing(key))
		}
	}
	if again, code := impl.SettleAll(c); code != impl.OK || !alikeClusters(again, c) {
		t.Fatal("settled twice", short(again), short(c))
	}
	return c
}

func TestSettledOwnersHaveTheSame(t *testing.T) {
	beside, gone := 0, 0
	for _, r := range repairRuns(t, 120, 60) {
		c := r.settle(t)
		for _, key := range clusterKeys {
			if sibs := len(r.standing(key)); sibs > 1 {
				beside++
			}
		}
		for _, e := range r.events {
			if !slices.Contains(r.standing(e.key), e.sibling) {
				gone++
			}
		}
		// what is on its way brings nothing new to anyone
		for len(c.Net) > 0 {
			next := deliverAct(0).got(t, c, impl.OK)
			if !slices.EqualFunc(next.Nodes, c.Nodes, alikeNodes) {
				t.Fatal("a message brings something new to settled nodes", c.Net[0])
			}
			c = next
		}
	}
	if beside < 100 || gone < 100 {
		t.Error("too little is asked for:", beside, gone)
	}
}

// Converged tells just what was seen by reading both owners of each key, all along.
func TestConvergedAlongRuns(t *testing.T) {
	told := [2]int{}
	for seed := range uint32(40) {
		r := newRepairRun(t, seed+700)
		for range 60 {
			r.run(t, 1, 6)
			c, same := r.cluster(), true
			for _, key := range clusterKeys {
				owners := ownersTold(key)
				same = same && alike(at(t, c, owners[0], key), at(t, c, owners[1], key))
			}
			if yes, code := impl.Converged(c); yes != same || code != impl.OK {
				t.Fatal("Converged", yes, code, "not", same)
			}
			if same {
				told[0]++
			} else {
				told[1]++
			}
		}
	}
	if told[0] < 100 || told[1] < 100 {
		t.Error("too little is asked for:", told)
	}
}

// Two puts that knew nothing of each other stand beside, wherever they were put and whatever became of their messages;
// one that knew them both stands alone.
func TestWhatWasPutUnknowingStandsBeside(t *testing.T) {
	for _, key := range clusterKeys {
		owners := ownersTold(key)
		a, b := owners[0], owners[1]
		for _, nodes := range [][2]int{{a, b}, {b, a}, {a, a}, {b, b}} {
			for _, ctx := range []vv{{}, {1, 1, 1}} { // of the first put of all, or of nothing
				for fate := range 6 {
					r := newRepairRun(t, 1)
					r.do(t, putAct(0, "a", vv{}, 1, false))
					r.do(t, putAct(1, "b", vv{}, 2, false))
					r.do(t, putAct(2, "e", vv{}, 3, false))
					r.do(t, putAct(nodes[0], key, ctx, 4, false))
					sufferFate(t, r, fate, nodes[1])
					r.do(t, putAct(nodes[1], key, ctx, 5, false))
					sufferFate(t, r, fate, nodes[0])
					c := r.settle(t)
					for _, owner := range []int{a, b} {
						values, code := impl.LiveValues(at(t, c, owner, key))
						if code != impl.OK || !slices.Contains(values, 4) || !slices.Contains(values, 5) {
							t.Fatal("not beside", key, nodes, ctx, fate, values)
						}
					}
					r.do(t, settleAct())
					r.do(t, putAct(b, key, at(t, c, a, key).Seen, 6, false))
					c = r.settle(t)
					if values, _ := impl.LiveValues(at(t, c, a, key)); !slices.Equal(values, []int{6}) {
						t.Fatal("not alone", key, nodes, ctx, fate, values)
					}
				}
			}
		}
	}
}

// sufferFate lets the last message be lost, come twice, come, or wait; or a node crash and come back, or crash amid a put.
func sufferFate(t *testing.T, r *repairRun, fate, node int) {
	t.Helper()
	last := len(r.net) - 1
	switch fate {
	case 0:
		r.do(t, dropAct(last))
	case 1:
		r.do(t, twiceAct(last))
		r.do(t, deliverAct(last))
	case 2:
		r.do(t, deliverAct(last))
	case 3:
		r.do(t, crashAct(node, 0, 0))
		r.do(t, backAct(node))
	case 4:
		r.do(t, tornAct(node, clusterKeys[(node*2+5)%6], 9, 0, 12))
		r.do(t, backAct(node))
	}
}

// The delete knows all that either owner knows. Whatever comes then, of old messages, hints, crashes and repairs, in
// whatever order: nothing of the key is there any more at the node that was asked, and, once settled, at neither.
func TestWhatWasDeletedDoesNotComeBack(t *testing.T) {
	old := 0
	for seed := range uint32(90) {
		r := newRepairRun(t, seed+2500)
		r.run(t, 50, int(seed%3))
		r.plainCluster.up = [impl.Nodes]bool{true, true, true}
		key := clusterKeys[int(seed)%len(clusterKeys)]
		r.do(t, putAct(ownersTold(key)[1], key, vv{}, 8, false)) // there is something to be deleted
		all, code := impl.ClusterGet(r.cluster(), key, 2)
		if code != impl.OK {
			t.Fatal("ClusterGet", code)
		}
		node := ownersTold(key)[r.draw(2)]
		r.do(t, putAct(node, key, all.Seen, 0, true))
		for range 30 {
			if !isGone(at(t, r.cluster(), node, key)) {
				t.Fatal("it came back", key, node, at(t, r.cluster(), node, key))
			}
			for _, m := range slices.Concat(r.net, r.hints) {
				if m.Key == key && !isGone(m.Obj) {
					old++
				}
			}
			r.do(t, r.drawAfterDelete(key))
		}
		for range 2 {
			c := r.settle(t)
			owners := ownersTold(key)
			for _, owner := range owners[:2] {
				if !isGone(at(t, c, owner, key)) {
					t.Fatal("it came back", key, owner, at(t, c, owner, key))
				}
			}
			r.do(t, settleAct())
			for len(r.net) > 0 { // the oldest come last
				r.do(t, deliverAct(len(r.net)-1))
			}
		}
	}
	if old < 200 {
		t.Error("too few old messages are asked for:", old)
	}
}

func isGone(o obj) bool { return !slices.ContainsFunc(o.Sibs, func(s sibling) bool { return !s.Dead }) }

// drawAfterDelete puts nothing onto the key any more.
func (r *repairRun) drawAfterDelete(key string) act {
	if r.draw(2) == 0 {
		return r.drawRepair()
	}
	node, i := r.draw(impl.Nodes), r.draw(len(r.net)+1)
	switch r.draw(6) {
	case 0:
		return twiceAct(i)
	case 1:
		return crashAct(node, r.draw(3), r.draw(9))
	case 2, 3:
		return backAct(node)
	case 4:
		for _, other := range clusterKeys {
			if other != key && ownersTold(other)[2] != node {
				return putAct(node, other, vv{}, r.draw(9), false)
			}
		}
	}
	return deliverAct(i)
}

// By hand: the other owner is down with the old value, and the net and a hint have it too.
func TestADeleteByHand(t *testing.T) {
	c := putAct(0, "a", vv{}, 5, false).got(t, impl.NewCluster(), impl.OK)
	c = twiceAct(0).got(t, c, impl.OK)
	c = deliverAct(0).got(t, c, impl.OK) // node 1 has it, and it will come once more
	c = crashAct(1, 0, 0).got(t, c, impl.OK)
	c = putAct(0, "a", vv{1}, 6, false).got(t, c, impl.OK) // node 2 has a hint of it
	c = putAct(0, "a", vv{2}, 0, true).got(t, c, impl.OK)
	c.Hints = c.Hints[:1] // the hint of the delete is lost
	keyHolds(t, c, "a", "3.0.0|a3!", "1.0.0|a1=5", none)
	c, code := impl.SettleAll(c)
	if code != impl.OK || len(c.Net) != 1 {
		t.Fatal("SettleAll", code, c.Net)
	}
	keyHolds(t, c, "a", "3.0.0|a3!", "3.0.0|a3!", none)
	c = deliverAct(0).got(t, c, impl.OK)
	keyHolds(t, c, "a", "3.0.0|a3!", "3.0.0|a3!", none)
	// a put that did not know of the delete stands beside it
	c = putAct(1, "a", vv{}, 7, false).got(t, c, impl.OK)
	c, _ = impl.SettleAll(c)
	keyHolds(t, c, "a", "3.1.0|a3!|b1=7", "3.1.0|a3!|b1=7", none)
}

// Without room nothing is promised but that nobody loses what it had, and that it is told.
func TestSettlingWithoutRoom(t *testing.T) {
	crowds := crowdedPlains(t)
	for i, p := range append(tightPlains(t), crowds.lines, crowds.keys, crowds.sibs) {
		was, c := p.cluster(), p.after(t, settleAct()).cluster()
		if yes, code := impl.Converged(c); yes || code != impl.OK {
			t.Error("Converged", i, yes, code)
		}
		for id, x := range was.Nodes {
			for _, had := range x.Cells {
				if !coversTold(hadAt(c.Nodes[id], had.Key), had.Obj) {
					t.Error("lost", i, id, had)
				}
			}
		}
	}
}
