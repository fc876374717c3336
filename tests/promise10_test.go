package tests

import (
	"slices"
	"testing"

	"loop.example/g00535/impl"
)

// Promise 10: what another node gets twice it gets once; a node that comes back has all that was sure.

// A run of acts on one cluster, beside the plain cluster of which asTold holds each answer.
type clusterRun struct {
	history
	plainCluster
}

// Two keys of each pair of owners.
var clusterKeys = []string{"a", "k", "b", "w", "e", "zzzzzz"}

func newClusterRun(t *testing.T, seed uint32) *clusterRun {
	t.Helper()
	return &clusterRun{history{state: seed}, newPlain(t)}
}

// drawNode is now and then no node, and drawKey no key.
func (r *clusterRun) drawNode() int {
	if r.draw(30) == 0 {
		return []int{-1, impl.Nodes}[r.draw(2)]
	}
	return r.draw(impl.Nodes)
}

func (r *clusterRun) drawKey() string {
	if r.draw(30) == 0 {
		return []string{"", "A", "sevenaa"}[r.draw(3)]
	}
	return clusterKeys[r.draw(len(clusterKeys))]
}

// drawContext knows nothing, what some replica knows, or some of what was, and now and then what was not.
func (r *clusterRun) drawContext(key string) vv {
	switch r.draw(8) {
	case 0, 1:
		return vv{}
	case 2, 3, 4:
		return r.nodes[r.draw(impl.Nodes)].objs[key].Seen
	}
	var v vv
	for id := range v {
		v[id] = r.draw(r.nodes[id].count + 1)
	}
	if r.draw(6) == 0 {
		v[r.draw(impl.Nodes)] += 1 + r.draw(3)
	}
	return v
}

func (r *clusterRun) drawAct() act {
	node, key, i := r.drawNode(), r.drawKey(), r.draw(len(r.net)+2)-1
	switch r.draw(20) {
	case 0:
		return dropAct(i)
	case 1:
		return twiceAct(i)
	case 2:
		return crashAct(node, r.draw(4)-r.draw(2), r.draw(9))
	case 3, 4, 5:
		return backAct(node)
	case 6:
		return tornAct(node, key, r.draw(impl.MaxValue+2), r.draw(2), r.draw(60))
	case 7, 8:
		return getAct(key, r.draw(4))
	case 9, 10, 11, 12:
		return deliverAct(i)
	}
	dead := r.draw(4) == 0
	value := r.draw(impl.MaxValue + 2)
	if dead && r.draw(6) > 0 {
		value = 0
	}
	return putAct(node, key, r.drawContext(key), value, dead)
}

func (r *clusterRun) step(t *testing.T) {
	t.Helper()
	r.plainCluster = r.drawAct().asTold(t, r.plainCluster)
}

func TestRunsOfAClusterAreAsTold(t *testing.T) {
	for seed := range uint32(120) {
		r := newClusterRun(t, seed)
		for range 60 {
			r.step(t)
		}
	}
}

// Clusters that runs come by, with messages on their way.
func clustersOfRuns(t *testing.T, runs, steps int) []plainCluster {
	t.Helper()
	var all []plainCluster
	for seed := range uint32(runs) {
		r := newClusterRun(t, seed+1000)
		for range steps {
			r.step(t)
		}
		all = append(all, r.plainCluster)
	}
	return all
}

// got is what a call makes of a cluster; it must have that code.
func (a act) got(t *testing.T, c cluster, code int) cluster {
	t.Helper()
	answer := a.ask(c)
	if answer.Code != code {
		t.Fatal(a.name, short(c), answer.Code, "not", code)
	}
	return answer.Cluster
}

// Delivered, and its twin too, in either order: the cluster is the same as without the twin, to the last line.
func TestAMessageThatComesTwice(t *testing.T) {
	for _, p := range append(clustersOfRuns(t, 40, 40), plainClusters(t)...) {
		c := p.cluster()
		if len(c.Net) == impl.MaxNet {
			c.Net = c.Net[1:]
		}
		for i, m := range c.Net[:min(len(c.Net), 12)] {
			first := deliverAct(i).ask(c)
			twins := twiceAct(i).got(t, c, impl.OK)
			last := len(twins.Net) - 1
			code := first.Code
			one := deliverAct(last-1).got(t, deliverAct(i).got(t, twins, code), code)
			other := deliverAct(i).got(t, deliverAct(last).got(t, twins, code), code)
			if !alikeClusters(one, first.Cluster) || !alikeClusters(other, first.Cluster) {
				t.Fatal("twice is not once", m, short(c))
			}
		}
	}
}

// The node may have crashed and come back, and got other messages, ahead of the second time.
func TestAMessageThatComesAgainLater(t *testing.T) {
	for _, p := range clustersOfRuns(t, 60, 50) {
		p.up = [impl.Nodes]bool{true, true, true}
		c := p.cluster()
		for i, m := range c.Net {
			if len(c.Net) == impl.MaxNet {
				break
			}
			twins := deliverAct(i).got(t, twiceAct(i).got(t, c, impl.OK), impl.OK)
			twins = backAct(m.To).got(t, crashAct(m.To, 0, 7).got(t, twins, impl.OK), impl.OK)
			once := deliverAct(i).got(t, c, impl.OK)
			for len(once.Net) > 0 {
				once, twins = deliverAct(0).got(t, once, impl.OK), deliverAct(0).got(t, twins, impl.OK)
			}
			if len(twins.Net) != 1 || !alikeClusters(deliverAct(0).got(t, twins, impl.OK), once) {
				t.Fatal("again is not once", i, m, short(c))
			}
		}
	}
}

// In whatever order messages come, and however often: the objects are the same.
func TestMessagesInAnyOrder(t *testing.T) {
	for seed, p := range clustersOfRuns(t, 60, 50) {
		p.up = [impl.Nodes]bool{true, true, true}
		once := p.cluster()
		for len(once.Net) > 0 {
			once = deliverAct(0).got(t, once, impl.OK)
		}
		h := history{state: uint32(seed)}
		mixed := p.cluster()
		for range len(mixed.Net) {
			if len(mixed.Net) < impl.MaxNet {
				mixed = twiceAct(h.draw(len(mixed.Net))).got(t, mixed, impl.OK)
			}
		}
		for len(mixed.Net) > 0 {
			mixed = deliverAct(h.draw(len(mixed.Net))).got(t, mixed, impl.OK)
		}
		for id := range impl.Nodes {
			if !slices.EqualFunc(once.Nodes[id].Cells, mixed.Nodes[id].Cells, func(a, b cell) bool { return a.Key == b.Key && alike(a.Obj, b.Obj) }) {
				t.Fatal("the order is seen", id, once.Nodes[id].Cells, mixed.Nodes[id].Cells)
			}
		}
	}
}

// Whatever a crash keeps or tears, and however long a node is down: it comes back with all that it had.
func TestANodeThatComesBack(t *testing.T) {
	for _, p := range append(clustersOfRuns(t, 40, 40), plainClusters(t)...) {
		for id := range impl.Nodes {
			c := p.cluster()
			if !c.Up[id] {
				c = backAct(id).got(t, c, impl.OK)
			}
			for _, n := range [][2]int{{0, 0}, {0, 1}, {1, 0}, {impl.MaxRecords, impl.MaxText}} {
				down := crashAct(id, n[0], n[1]).got(t, c, impl.OK)
				if down.Up[id] || !alikeNodes(down.Nodes[id], c.Nodes[id]) {
					t.Fatal("CrashAt", id, n, short(down), short(c))
				}
				if back := backAct(id).got(t, down, impl.OK); !alikeClusters(back, c) {
					t.Fatal("BackAt", id, n, short(back), short(c))
				}
			}
		}
	}
}

// A put that is torn is there as a whole, or not at all; all that was sure ahead of it is there.
func TestANodeThatComesBackFromATornPut(t *testing.T) {
	for _, p := range clustersOfRuns(t, 40, 40) {
		p.up = [impl.Nodes]bool{true, true, true}
		c := p.cluster()
		for _, key := range clusterKeys {
			owners := ownersTold(key)
			for _, id := range owners[:2] {
				for _, n := range [][2]int{{0, 0}, {0, 1}, {0, 20}, {0, impl.MaxText}, {1, 0}} {
					back := backAct(id).got(t, tornAct(id, key, 5, n[0], n[1]).got(t, c, impl.OK), impl.OK)
					was, is := c.Nodes[id].Disk.Sure, back.Nodes[id].Disk.Sure
					if len(is) < len(was) || len(is) > len(was)+1 || !slices.Equal(is[:len(was)], was) {
						t.Fatal("PutTorn", key, id, n, short(was), short(is))
					}
					if len(is) == len(was) && !alikeClusters(back, c) || len(is) > len(was) && back.Nodes[id].Count != c.Nodes[id].Count+1 {
						t.Fatal("PutTorn", key, id, n, short(back.Nodes[id]), short(c.Nodes[id]))
					}
				}
			}
		}
	}
}

// Every put that was done is known by its node for ever, whatever comes, and what its node knows by a get of both owners.
func TestNoPutThatWasDoneIsLost(t *testing.T) {
	for seed := range uint32(30) {
		r := newClusterRun(t, seed+5000)
		var done []entry
		for range 80 {
			before := r.records
			r.step(t)
			for id, x := range r.nodes {
				if len(r.records[id]) > len(before[id]) && len(x.feed) > 0 && x.feed[len(x.feed)-1].Dot.N == x.count {
					done = append(done, x.feed[len(x.feed)-1])
				}
			}
		}
		r.up = [impl.Nodes]bool{true, true, true}
		c := r.cluster()
		for id := range impl.Nodes {
			c = backAct(id).got(t, crashAct(id, 0, 0).got(t, c, impl.OK), impl.OK)
		}
		for _, e := range done {
			at, code := impl.ObjAt(c.Nodes[e.Dot.Node], e.Key)
			both, bothCode := impl.ClusterGet(c, e.Key, 2)
			if code != impl.OK || bothCode != impl.OK || at.Seen[e.Dot.Node] < e.Dot.N || !coversTold(both, at) {
				t.Fatal("lost", e, at, code, both, bothCode)
			}
		}
	}
}

// By hand: a put reaches the other owner twice, and its node is none the wiser; then it crashes, and comes back.
func TestTwiceAndBackByHand(t *testing.T) {
	p := newPlain(t).after(t, putAct(0, "a", vv{}, 5, false), twiceAct(0), deliverAct(0))
	line := sealTold("join a 1.0.0|a1=5")
	if c := p.cluster(); !slices.Equal(c.Nodes[1].Disk.Sure, []string{line}) || len(c.Net) != 1 {
		t.Fatal("once", c)
	}
	p = p.after(t, deliverAct(0))
	if c := p.cluster(); !slices.Equal(c.Nodes[1].Disk.Sure, []string{line}) || len(c.Net) != 0 {
		t.Fatal("twice", c)
	}
	p = p.after(t, crashAct(1, 0, 0), getAct("a", 2), backAct(1), getAct("a", 2), deliverAct(0))
	if got, code := impl.ClusterGet(p.cluster(), "a", 2); objTold(got) != "1.0.0|a1=5" || code != impl.OK {
		t.Fatal("ClusterGet", got, code)
	}
}
