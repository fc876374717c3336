package tests

import (
	"fmt"
	"math"
	"slices"
	"testing"

	"loop.example/g00535/impl"
)

// Key a belongs to nodes 0 and 1, b to 1 and 2, e to 2 and 0.
func somePlain(t *testing.T) plainCluster {
	t.Helper()
	p := plainClusterOf(t, [impl.Nodes][]string{
		{"put a 1.0.0|a1=5", "join a 1.1.0|a1=5|b1=6", "put e 2.0.0|a2!"},
		{"put a 0.1.0|b1=6", "put b 0.2.0|b2=7", "cut 1"},
		{"join b 0.2.0|b2=7", "put b 0.2.1|c1=8"},
	})
	p.net = []msg{sent(0, 1, "a", "1.1.0|a1=5|b1=6"), sent(2, 1, "b", "0.2.1|c1=8"), sent(0, 2, "e", "2.0.0|a2!"), sent(1, 0, "a", "0.1.0|b1=6")}
	p.hints = []msg{sent(2, 1, "a", "1.0.0|a1=5"), sent(1, 0, "e", "0.0.0")}
	return p
}

// ups has the cluster once for each choice of nodes that are up.
func (p plainCluster) ups() []plainCluster {
	var all []plainCluster
	for choice := range 8 {
		for id := range p.up {
			p.up[id] = choice>>id&1 == 1
		}
		all = append(all, p)
	}
	return all
}

// keysOwnedBy has keys of two letters that the node owns.
func keysOwnedBy(node, many int) []string {
	var keys []string
	for i := 0; len(keys) < many; i++ {
		if key := keyNumber(i); ownersTold(key)[2] != node {
			keys = append(keys, key)
		}
	}
	return keys
}

// Clusters whose node 0 has no room: of lines, of keys, of siblings of key a. Node 1 has had an event of key a, and of
// another key that both own; on the net both are on their way to node 0.
type crowdedClusters struct{ lines, keys, sibs plainCluster }

const otherKey = "k"

func crowdedPlains(t *testing.T) crowdedClusters {
	t.Helper()
	keys := append(keysOwnedBy(0, impl.MaxKeys-1), "a")
	if owners := ownersTold(otherKey); owners[2] != 2 || slices.Contains(keys, otherKey) {
		t.Fatal("another key is asked for", owners)
	}
	crowd := func(records []string) plainCluster {
		p := plainClusterOf(t, [impl.Nodes][]string{records, {"put a 0.1.0|b1=6", "put " + otherKey + " 0.2.0|b2=7"}, nil})
		p.net = []msg{sent(1, 0, "a", "0.1.0|b1=6"), sent(1, 0, otherKey, "0.2.0|b2=7"), sent(1, 0, "a", "0.0.0"), sent(0, 1, "a", "1.0.0")}
		return p
	}
	return crowdedClusters{
		lines: crowd(puts(1, impl.MaxRecords, func(n int) string { return "a" })),
		keys:  crowd(puts(1, impl.MaxKeys, func(n int) string { return keys[n-1] })),
		sibs:  crowd(siblingsOf("a", impl.MaxSibs)),
	}
}

// Clusters with as many messages, or hints, as there may be.
func fullPlains(t *testing.T) []plainCluster {
	t.Helper()
	net, hints := somePlain(t), somePlain(t)
	net.net = slices.Repeat(net.net[:1], impl.MaxNet)
	hints.hints = slices.Repeat(hints.hints[:1], impl.MaxHints)
	both := net
	both.hints = hints.hints
	return []plainCluster{net, hints, both}
}

func plainClusters(t *testing.T) []plainCluster {
	t.Helper()
	crowds := crowdedPlains(t)
	all := append(somePlain(t).ups(), plainClusterOf(t, [impl.Nodes][]string{}), crowds.lines, crowds.keys, crowds.sibs)
	all = append(all, fullPlains(t)...)
	// a message from the fallback, hints from an owner and from a node that is down: these are right, too
	odd := somePlain(t)
	odd.net, odd.hints = odd.hints, odd.net
	odd.up = [impl.Nodes]bool{true, false, false}
	// what an object knows may have been of another key
	known := plainClusterOf(t, [impl.Nodes][]string{{"put a 1.0.0|a1=5"}, {"join a 1.0.0"}, {"join b 1.0.0|a1=7"}})
	known.net = []msg{sent(2, 1, "b", "1.0.0|a1=9"), sent(0, 1, "b", "0.0.0")}
	return append(all, odd, known)
}

func TestClusterConstants(t *testing.T) {
	if impl.MaxNet != 60 || impl.MaxHints != 60 {
		t.Error("MaxNet, MaxHints", impl.MaxNet, impl.MaxHints)
	}
}

func TestNewCluster(t *testing.T) {
	want := cluster{Nodes: []node{{Id: 0}, {Id: 1}, {Id: 2}}, Up: []bool{true, true, true}}
	for range 3 {
		c := impl.NewCluster()
		if !alikeClusters(c, want) || !impl.ClusterOK(c) {
			t.Error("NewCluster", c)
		}
		scribble(c.Nodes, node{Id: 7})
		scribble(c.Up, false)
	}
}

func TestRightClusters(t *testing.T) {
	for i, p := range plainClusters(t) {
		if !impl.ClusterOK(p.cluster()) {
			t.Error("ClusterOK of right cluster", i, short(p.cluster()))
		}
	}
	empty := cluster{Nodes: []node{{Id: 0}, {Id: 1, Cells: []cell{}, Feed: []entry{}}, {Id: 2}}, Up: make([]bool, 3), Net: []msg{}, Hints: []msg{}}
	if !impl.ClusterOK(empty) {
		t.Error("ClusterOK of empty lists")
	}
}

// changedClusters has one copy for each change of a cluster that was right.
func changedClusters(p plainCluster, changes ...func(c *cluster)) []cluster {
	var all []cluster
	for _, change := range changes {
		c := p.cluster()
		change(&c)
		all = append(all, c)
	}
	return all
}

func wrongListsOfClusters(t *testing.T) []cluster {
	more := msg{From: 0, To: 1, Key: "a"}
	return append(changedClusters(somePlain(t),
		func(c *cluster) { c.Nodes = nil },
		func(c *cluster) { c.Nodes = c.Nodes[:1] },
		func(c *cluster) { c.Nodes = c.Nodes[:2] },
		func(c *cluster) { c.Nodes = c.Nodes[1:] },
		func(c *cluster) { c.Nodes = append(c.Nodes, node{Id: 3}) },
		func(c *cluster) { c.Nodes = append(c.Nodes, node{}) },
		func(c *cluster) { c.Nodes = append(c.Nodes, c.Nodes[2]) },
		func(c *cluster) { c.Nodes = make([]node, 5000) },
		func(c *cluster) { c.Up = nil },
		func(c *cluster) { c.Up = c.Up[:2] },
		func(c *cluster) { c.Up = append(c.Up, true) },
		func(c *cluster) { c.Up = make([]bool, 5000) },
		func(c *cluster) { c.Nodes, c.Up = c.Nodes[:2], c.Up[:2] },
		func(c *cluster) { c.Nodes, c.Up = append(c.Nodes, node{Id: 3}), append(c.Up, true) },
		func(c *cluster) { *c = cluster{} },
		// out of their order
		func(c *cluster) { c.Nodes[0], c.Nodes[1] = c.Nodes[1], c.Nodes[0] },
		func(c *cluster) { c.Nodes[1], c.Nodes[2] = c.Nodes[2], c.Nodes[1] },
		func(c *cluster) { slices.Reverse(c.Nodes) },
		func(c *cluster) { *c = impl.NewCluster(); slices.Reverse(c.Nodes) },
		func(c *cluster) { *c = impl.NewCluster(); c.Nodes[2] = node{Id: 1} },
		func(c *cluster) { *c = impl.NewCluster(); c.Nodes[2] = node{Id: 3} },
		func(c *cluster) { *c = impl.NewCluster(); c.Nodes[0] = node{Id: -1} },
		// one too many
		func(c *cluster) { c.Net = slices.Repeat([]msg{more}, impl.MaxNet+1) },
		func(c *cluster) { c.Hints = slices.Repeat([]msg{more}, impl.MaxHints+1) },
		func(c *cluster) { c.Net = make([]msg, 5000) },
		func(c *cluster) { c.Hints = make([]msg, 5000) },
	), changedClusters(fullPlains(t)[2],
		func(c *cluster) { c.Net = append(c.Net, c.Net[0]) },
		func(c *cluster) { c.Hints = append(c.Hints, c.Hints[0]) })...)
}

// Nodes that are not right, that have lines that are not sure, or keys that they do not own.
func wrongNodesOfClusters(t *testing.T) []cluster {
	var all []cluster
	for id := range impl.Nodes {
		all = append(all, changedClusters(somePlain(t),
			func(c *cluster) { c.Nodes[id].Count++ },
			func(c *cluster) { c.Nodes[id].Cut += 2 },
			func(c *cluster) { c.Nodes[id].Id += 3 },
			func(c *cluster) { c.Nodes[id].Cells = nil },
			func(c *cluster) { c.Nodes[id].Feed = nil },
			func(c *cluster) { c.Nodes[id].Cells[0].Obj.Sibs[0].Value++ },
			func(c *cluster) { c.Nodes[id].Disk = disk{} },
			func(c *cluster) { c.Nodes[id].Disk.Sure[0] += " " },
			func(c *cluster) { c.Nodes[id].Disk.Sure = append(c.Nodes[id].Disk.Sure, "") },
			func(c *cluster) {
				d := &c.Nodes[id].Disk
				d.Sure, d.Unsure = d.Sure[:len(d.Sure)-1], d.Sure[len(d.Sure)-1:]
			},
			func(c *cluster) { d := &c.Nodes[id].Disk; d.Sure, d.Unsure = nil, d.Sure })...)
		first := []string{"1.0.0|a1=5", "0.1.0|b1=5", "0.0.1|c1=5"}[id]
		all = append(all,
			newPlain(t).noted(t, id, "put "+notOwned(id)+" "+first).cluster(),
			somePlain(t).noted(t, id, "join "+notOwned(id)+" 1.1.1").cluster())
	}
	for _, x := range wrongNodes(t)[:60] {
		all = append(all, changedClusters(newPlain(t), func(c *cluster) { c.Nodes[0] = x })...)
	}
	return all
}

// notOwned is a key of both other nodes.
func notOwned(id int) string { return []string{"b", "e", "a"}[id] }

// Objects that know an event that was not, at each node, and of each node.
func wrongKnowledgeOfClusters(t *testing.T) []cluster {
	var all []cluster
	had := vv{2, 2, 1}
	for of := range impl.Nodes {
		late := had
		late[of]++
		all = append(all, changedClusters(somePlain(t),
			func(c *cluster) { c.Net[1].Obj.Seen[of] = late[of] },
			func(c *cluster) { c.Net[3].Obj = object(late, live(of, late[of], 7)) },
			func(c *cluster) { c.Net[0].Obj.Seen[of] = impl.MaxDot },
			func(c *cluster) { c.Hints[0].Obj.Seen[of] = late[of] },
			func(c *cluster) { c.Hints[1].Obj = object(late, live(of, late[of], 7)) },
			func(c *cluster) { c.Hints[1].Obj.Seen[of] = impl.MaxDot })...)
		for id := range impl.Nodes {
			if id != of {
				all = append(all, somePlain(t).noted(t, id, "join "+[]string{"e", "a", "b"}[id]+" "+vvTold(late)).cluster())
			}
		}
		// what was known was, and then its node is one that is new
		all = append(all, changedClusters(somePlain(t), func(c *cluster) { c.Nodes[of] = node{Id: of} })...)
	}
	return all
}

func wrongMsgsOfClusters(t *testing.T) []cluster {
	var changes []func(m *msg)
	for _, n := range noNodes {
		changes = append(changes, func(m *msg) { m.From = n }, func(m *msg) { m.To = n }, func(m *msg) { m.From, m.To = n, n })
	}
	changes = append(changes, func(m *msg) { m.To = m.From }, func(m *msg) { m.From = m.To }, func(m *msg) { *m = msg{} })
	for from := range impl.Nodes {
		for to := range impl.Nodes {
			changes = append(changes, func(m *msg) { *m = sent(from, to, notOwned(to), "1.1.1|a1=5|b1=6") })
		}
	}
	for _, key := range slices.Concat(wrongKeys, longKeys) {
		changes = append(changes, func(m *msg) { m.Key = key })
	}
	for _, o := range wrongObjs() {
		changes = append(changes, func(m *msg) { m.Obj = o })
	}
	var all []cluster
	for _, change := range changes {
		all = append(all, changedClusters(somePlain(t),
			func(c *cluster) { change(&c.Net[0]) },
			func(c *cluster) { change(&c.Net[3]) },
			func(c *cluster) { change(&c.Hints[0]) },
			func(c *cluster) { change(&c.Hints[1]) })...)
	}
	return all
}

func wrongClusters(t *testing.T) []cluster {
	return slices.Concat(wrongListsOfClusters(t), wrongNodesOfClusters(t), wrongKnowledgeOfClusters(t), wrongMsgsOfClusters(t))
}

// In these calls ErrBad is ahead of all codes but ErrLong, whatever else is handed in, and beside it all is zero.
func TestWrongClusters(t *testing.T) {
	acts := []act{putAct(0, "a", vv{}, 5, false), putAct(-1, "A", vv{-1}, 1000, true), putAct(2, "a", vv{9999, 9999, 9999}, 5, false),
		putAct(0, longKeys[0], vv{-1}, -1, true), getAct("a", 1), getAct("A", 3), getAct(longKeys[0], 3), deliverAct(0), deliverAct(-1), deliverAct(4999),
		dropAct(0), dropAct(math.MaxInt), twiceAct(0), twiceAct(math.MinInt), crashAct(0, 0, 0), crashAct(3, -1, -1), crashAct(1, 0, impl.MaxText+1),
		backAct(1), backAct(-1), tornAct(0, "a", 5, 0, 0), tornAct(3, "", -1, -1, -1), tornAct(3, longKeys[0], -1, -1, -1),
		exchangeAct(0, 1), exchangeAct(1, 2), exchangeAct(1, 1), exchangeAct(3, -1), handoffAct(0), handoffAct(2), handoffAct(math.MinInt), repairAct("a"),
		repairAct("b"), repairAct(""), repairAct(longKeys[0]), settleAct(), convergedAct()}
	for i, c := range wrongClusters(t) {
		if impl.ClusterOK(c) {
			t.Error("ClusterOK of wrong cluster", i, short(c))
		}
		was := copyOfCluster(c)
		for _, a := range acts {
			want := impl.ErrBad
			if a.long {
				want = impl.ErrLong
			}
			got := a.ask(c)
			if got.bare() != (clusterAnswer{Code: want}).bare() || !isZero(got.Obj) || !isZeroCluster(got.Cluster) {
				t.Fatal(a.name, "of wrong cluster", i, short(got), "not", want)
			}
		}
		if !alikeClusters(c, was) {
			t.Fatal("wrong cluster is changed", i, short(c))
		}
	}
}

// Nothing but the first fault is told: all choices of what is handed in, right and wrong, to clusters with each choice of
// nodes that are up, and to those that have no room.
func TestEachPutOfASmallCluster(t *testing.T) {
	crowds := crowdedPlains(t)
	for _, p := range append(somePlain(t).ups(), crowds.lines, crowds.keys, crowds.sibs) {
		had := vv{p.nodes[0].count, p.nodes[1].count, p.nodes[2].count}
		for _, node := range []int{-1, 0, 1, 2, 3} {
			for _, key := range []string{"a", "b", "e", otherKey, "B", "", longKeys[0]} {
				for _, ctx := range []vv{{}, {1, 1, 0}, had, {had[0] + 1}, {0, had[1] + 1}, {0, 0, impl.MaxDot}, {-1}, {0, 0, impl.MaxDot + 1}} {
					putAct(node, key, ctx, 5, false).asTold(t, p)
				}
				for _, v := range []sibling{{Value: 0}, {Value: impl.MaxValue}, {Value: impl.MaxValue + 1}, {Value: -1}, {Dead: true}, {Value: 1, Dead: true}} {
					putAct(node, key, vv{1}, v.Value, v.Dead).asTold(t, p)
				}
				putAct(node, key, vv{-1}, 1000, true).asTold(t, p)
				putAct(node, key, vv{had[0] + 1}, 1000, true).asTold(t, p)
			}
		}
	}
}

func TestEachTornPutOfASmallCluster(t *testing.T) {
	crowds := crowdedPlains(t)
	for _, p := range append(somePlain(t).ups(), crowds.lines, crowds.keys, crowds.sibs) {
		for _, node := range []int{-1, 0, 1, 2, 3} {
			for _, key := range []string{"a", "e", otherKey, "B", longKeys[0]} {
				for _, n := range [][3]int{{5, 0, 0}, {0, 1, 0}, {999, 0, 1}, {5, 0, impl.MaxText}, {5, impl.MaxRecords, impl.MaxText}, {-1, 0, 0}, {1000, 0, 0},
					{5, -1, 0}, {5, impl.MaxRecords + 1, 0}, {5, 0, -1}, {5, 0, impl.MaxText + 1}, {math.MinInt, math.MaxInt, 1 << 32}} {
					tornAct(node, key, n[0], n[1], n[2]).asTold(t, p)
				}
			}
		}
	}
}

func TestOtherActsOfSmallClusters(t *testing.T) {
	for _, p := range plainClusters(t) {
		for _, key := range []string{"a", "b", "e", otherKey, "zzzzzz", "B", "", longKeys[0]} {
			for _, r := range []int{math.MinInt, -1, 0, 1, 2, 3, 1<<32 + 1, math.MaxInt} {
				getAct(key, r).asTold(t, p)
			}
		}
		for _, i := range []int{math.MinInt, -1, 0, 1, 2, 3, len(p.net) - 1, len(p.net), len(p.net) + 1, impl.MaxNet, 1 << 32, math.MaxInt} {
			deliverAct(i).asTold(t, p)
			dropAct(i).asTold(t, p)
			twiceAct(i).asTold(t, p)
		}
		for _, node := range []int{math.MinInt, -1, 0, 1, 2, 3, 1 << 32, math.MaxInt} {
			backAct(node).asTold(t, p)
			for _, n := range [][2]int{{0, 0}, {0, 5}, {1, 0}, {impl.MaxRecords, impl.MaxText}, {-1, 0}, {0, -1}, {impl.MaxRecords + 1, 0}, {0, impl.MaxText + 1},
				{math.MaxInt, math.MinInt}} {
				crashAct(node, n[0], n[1]).asTold(t, p)
			}
		}
	}
}

func newPlain(t *testing.T) plainCluster {
	t.Helper()
	return plainClusterOf(t, [impl.Nodes][]string{})
}

// The same by hand: who is told of a put, and where it waits.
func TestWhereAPutIsSent(t *testing.T) {
	for _, c := range []struct {
		node       int
		key        string
		down       []int
		net, hints []msg
	}{
		{0, "a", nil, []msg{sent(0, 1, "a", "1.0.0|a1=5")}, nil},
		{1, "a", nil, []msg{sent(1, 0, "a", "0.1.0|b1=5")}, nil},
		{1, "b", nil, []msg{sent(1, 2, "b", "0.1.0|b1=5")}, nil},
		{2, "b", nil, []msg{sent(2, 1, "b", "0.0.1|c1=5")}, nil},
		{2, "e", nil, []msg{sent(2, 0, "e", "0.0.1|c1=5")}, nil},
		{0, "e", nil, []msg{sent(0, 2, "e", "1.0.0|a1=5")}, nil},
		// the fallback is down: nobody asks
		{0, "a", []int{2}, []msg{sent(0, 1, "a", "1.0.0|a1=5")}, nil},
		// the other owner is down: the fallback has a hint
		{0, "a", []int{1}, nil, []msg{sent(2, 1, "a", "1.0.0|a1=5")}},
		{1, "a", []int{0}, nil, []msg{sent(2, 0, "a", "0.1.0|b1=5")}},
		{1, "b", []int{2}, nil, []msg{sent(0, 2, "b", "0.1.0|b1=5")}},
		{0, "e", []int{2}, nil, []msg{sent(1, 2, "e", "1.0.0|a1=5")}},
		// both are down: it is there alone
		{0, "a", []int{1, 2}, nil, nil},
		{2, "e", []int{0, 1}, nil, nil},
	} {
		x := impl.NewCluster()
		for _, down := range c.down {
			x.Up[down] = false
		}
		got, d, code := impl.ClusterPut(x, c.node, c.key, vv{}, 5, false)
		if code != impl.OK || d != (dot{Node: c.node, N: 1}) || !alikeMsgs(got.Net, c.net) || !alikeMsgs(got.Hints, c.hints) {
			t.Error("ClusterPut", c.node, c.key, c.down, got.Net, got.Hints, d, code)
		}
		if at := got.Nodes[c.node]; len(at.Disk.Sure) != 1 || len(at.Disk.Unsure) != 0 || at.Count != 1 || !slices.Equal(got.Up, x.Up) {
			t.Error("ClusterPut", c.node, c.key, c.down, at, got.Up)
		}
	}
}

// What is sent is the whole object, with what was beside it.
func TestAPutSendsItsObject(t *testing.T) {
	p := newPlain(t).after(t, putAct(0, "a", vv{}, 5, false), putAct(0, "a", vv{}, 6, false), putAct(0, "a", vv{1}, 0, true), putAct(0, "e", vv{3}, 9, false))
	want := []msg{sent(0, 1, "a", "1.0.0|a1=5"), sent(0, 1, "a", "2.0.0|a1=5|a2=6"), sent(0, 1, "a", "3.0.0|a2=6|a3!"), sent(0, 2, "e", "4.0.0|a4=9")}
	if !alikeMsgs(p.net, want) {
		t.Error("Net", p.net)
	}
}

// The last message and the last hint; one more is lost, and the put is done all the same. A full net makes no hint.
func TestTheLastMessageAndTheLastHint(t *testing.T) {
	for _, up := range []bool{true, false} {
		p := newPlain(t)
		p.up[1] = up
		for n := 1; n <= impl.MaxNet+2; n++ {
			p = putAct(0, "a", vv{n - 1}, n, false).asTold(t, p)
			net, hints := min(n, impl.MaxNet), 0
			if !up {
				net, hints = 0, min(n, impl.MaxHints)
			}
			if p.nodes[0].count != n || len(p.net) != net || len(p.hints) != hints {
				t.Fatal("put", n, up, p.nodes[0].count, len(p.net), len(p.hints))
			}
		}
		// one list is full, the other one has room
		p.up[1] = !up
		p = putAct(0, "a", vv{}, 7, false).asTold(t, p)
		if len(p.net)+len(p.hints) != impl.MaxNet+1 {
			t.Error("the other list", up, len(p.net), len(p.hints))
		}
		twiceAct(0).asTold(t, p)
		dropAct(0).asTold(t, p)
	}
}

// The first owner is asked ahead of the second one; if it is down, the second one is the first that is up.
func TestGetsOfOwnersThatAreUp(t *testing.T) {
	for _, c := range []struct {
		first, second string
		up            [2]bool
		r             int
		want          string
		code          int
	}{
		{"put a 1.0.0|a1=5", "put a 0.1.0|b1=6", [2]bool{true, true}, 1, "1.0.0|a1=5", impl.OK},
		{"put a 1.0.0|a1=5", "put a 0.1.0|b1=6", [2]bool{true, true}, 2, "1.1.0|a1=5|b1=6", impl.OK},
		{"put a 1.0.0|a1=5", "put a 0.1.0|b1=6", [2]bool{false, true}, 1, "0.1.0|b1=6", impl.OK},
		{"put a 1.0.0|a1=5", "put a 0.1.0|b1=6", [2]bool{true, false}, 1, "1.0.0|a1=5", impl.OK},
		{"put a 1.0.0|a1=5", "put a 0.1.0|b1=6", [2]bool{false, true}, 2, "0.0.0", impl.ErrQuorum},
		{"put a 1.0.0|a1=5", "put a 0.1.0|b1=6", [2]bool{true, false}, 2, "0.0.0", impl.ErrQuorum},
		{"put a 1.0.0|a1=5", "put a 0.1.0|b1=6", [2]bool{false, false}, 1, "0.0.0", impl.ErrQuorum},
		{"put a 1.0.0|a1=5", "put a 0.1.0|b1=6", [2]bool{false, false}, 3, "0.0.0", impl.ErrRange},
		{"put a 1.0.0|a1=5", "put a 0.1.0|b1=6", [2]bool{true, true}, 0, "0.0.0", impl.ErrRange},
		// one of them has none of it
		{"put a 1.0.0|a1=5", "put b 0.1.0|b1=6", [2]bool{true, true}, 2, "1.0.0|a1=5", impl.OK},
		{"put e 1.0.0|a1=5", "put a 0.1.0|b1=6", [2]bool{true, true}, 2, "0.1.0|b1=6", impl.OK},
		{"put e 1.0.0|a1=5", "put a 0.1.0|b1=6", [2]bool{true, true}, 1, "0.0.0", impl.OK},
		{"put e 1.0.0|a1=5", "put b 0.1.0|b1=6", [2]bool{true, true}, 2, "0.0.0", impl.OK},
	} {
		p := plainClusterOf(t, [impl.Nodes][]string{{c.first}, {c.second}, nil})
		for _, fallback := range []bool{true, false} {
			p.up = [impl.Nodes]bool{c.up[0], c.up[1], fallback}
			if got, code := impl.ClusterGet(p.cluster(), "a", c.r); objTold(got) != c.want || code != c.code {
				t.Error("ClusterGet", c, fallback, got, code)
			}
			getAct("a", c.r).asTold(t, p)
		}
	}
}

// Two replicas with too many siblings between them are ErrMany, and each by itself is none.
func TestGetsOfManySiblings(t *testing.T) {
	p := crowdedPlains(t).sibs
	for _, c := range []struct{ r, sibs, code int }{{1, impl.MaxSibs, impl.OK}, {2, 0, impl.ErrMany}} {
		if got, code := impl.ClusterGet(p.cluster(), "a", c.r); len(got.Sibs) != c.sibs || code != c.code {
			t.Error("ClusterGet", c, len(got.Sibs), code)
		}
	}
	p.up[0] = false
	if got, code := impl.ClusterGet(p.cluster(), "a", 1); objTold(got) != "0.1.0|b1=6" || code != impl.OK {
		t.Error("ClusterGet", got, code)
	}
}

// A message goes even if its node is down, or has no room for it; nothing else changes then.
func TestMessagesThatAreLost(t *testing.T) {
	crowds := crowdedPlains(t)
	down := crowds.sibs
	down.up[0] = false
	for i, c := range []struct {
		p       plainCluster
		at      int
		code    int
		changed bool
	}{
		{down, 0, impl.ErrDown, false}, {down, 2, impl.ErrDown, false}, {down, 3, impl.OK, true},
		{crowds.lines, 0, impl.ErrFull, false}, {crowds.lines, 1, impl.ErrFull, false}, {crowds.lines, 2, impl.OK, false},
		{crowds.keys, 0, impl.OK, true}, {crowds.keys, 1, impl.ErrMany, false}, {crowds.keys, 2, impl.OK, false},
		{crowds.sibs, 0, impl.ErrMany, false}, {crowds.sibs, 1, impl.OK, true}, {crowds.sibs, 2, impl.OK, false},
	} {
		got, code := impl.Deliver(c.p.cluster(), c.at)
		if code != c.code || len(got.Net) != len(c.p.net)-1 {
			t.Error("Deliver", i, len(got.Net), code)
		}
		if same := slices.EqualFunc(got.Nodes, c.p.cluster().Nodes, alikeNodes); same == c.changed {
			t.Error("Deliver", i, "changed:", !same)
		}
		deliverAct(c.at).asTold(t, c.p)
	}
}

// A put whose node crashes: each byte of its line that may be left.
func TestPutsThatAreTorn(t *testing.T) {
	p := somePlain(t)
	record := "put a 3.1.0|a3=4" // it knew all that was there
	whole := p.noted(t, 0, record)
	lost := p
	for torn := range len(sealTold(record)) + 3 {
		for keep, want := range []plainCluster{lost, whole} {
			if torn >= len(sealTold(record)) {
				want = whole
			}
			want.up[0] = false
			got, code := impl.PutTorn(p.cluster(), 0, "a", 4, keep, torn)
			if code != impl.OK || !alikeClusters(got, want.cluster()) {
				t.Fatal("PutTorn", keep, torn, code, fmt.Sprint(got))
			}
		}
		tornAct(0, "a", 4, 0, torn).asTold(t, p)
	}
}

// Nodes go down and come back one by one, and each is asked once too often.
func TestDownAndBack(t *testing.T) {
	p := somePlain(t)
	for id := range impl.Nodes {
		p = p.after(t, backAct(id), crashAct(id, 0, 0), crashAct(id, 0, 0), crashAct(id, 3, 3), putAct(id, notOwned(id), vv{}, 5, false),
			tornAct(id, notOwned(id), 5, 0, 0))
	}
	if p.up != [impl.Nodes]bool{} {
		t.Fatal("Up", p.up)
	}
	for id := range impl.Nodes {
		p = p.after(t, getAct("a", 1), getAct("a", 2), backAct(id), backAct(id), putAct(id, notOwned(id), vv{}, 5, false))
	}
	if !alikeClusters(p.cluster(), somePlain(t).cluster()) {
		t.Error("not as it was", p.cluster())
	}
}
