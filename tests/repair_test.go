package tests

import (
	"fmt"
	"math"
	"slices"
	"testing"

	"loop.example/g00535/impl"
)

var someIntegers = []int{math.MinInt, -1, 0, 1, 2, 3, 1 << 32, math.MaxInt}

// All choices of what is handed in, right and wrong, to clusters with each choice of nodes that are up, to those that
// have no room, and to those that are full of messages and hints.
func TestEachRepairOfSmallClusters(t *testing.T) {
	for _, p := range append(plainClusters(t), tightPlains(t)...) {
		for _, a := range someIntegers {
			handoffAct(a).asTold(t, p)
			for _, b := range someIntegers {
				exchangeAct(a, b).asTold(t, p)
			}
		}
		for _, key := range []string{"a", "b", "e", otherKey, "w", "zzzzzz", "B", "", "sevenaa", "a ", longKeys[0]} {
			repairAct(key).asTold(t, p)
		}
		convergedAct().asTold(t, p)
		convergedAct().asTold(t, p.after(t, settleAct()))
	}
}

// fillers are puts of one node onto one key, the last of which is there alone.
func fillers(id, many int, key string) []string {
	var records []string
	for n := 1; n <= many; n++ {
		var seen vv
		seen[id] = n
		records = append(records, "put "+key+" "+objTold(object(seen, live(id, n, n))))
	}
	return records
}

// oneLineLeft has records that leave room for one line more.
func oneLineLeft(id int, key string) []string { return fillers(id, impl.MaxRecords-1, key) }

// Clusters of which one node has room for one line more, and two others have a key for it each.
func tightPlains(t *testing.T) []plainCluster {
	t.Helper()
	return []plainCluster{
		plainClusterOf(t, [impl.Nodes][]string{oneLineLeft(0, "e"), {"put a 0.1.0|b1=1"}, {"put zzzzzz 0.0.1|c1=2"}}),
		plainClusterOf(t, [impl.Nodes][]string{{"put k 1.0.0|a1=1"}, oneLineLeft(1, "b"), {"put w 0.0.1|c1=2"}}),
		plainClusterOf(t, [impl.Nodes][]string{{"put e 1.0.0|a1=1"}, {"put w 0.1.0|b1=2"}, oneLineLeft(2, "b")}),
	}
}

// hadAt is what a node has of a key, zero without one.
func hadAt(x node, key string) obj {
	for _, c := range x.Cells {
		if c.Key == key {
			return c.Obj
		}
	}
	return obj{}
}

// objsOfKey tells what each node has of a key.
func objsOfKey(c cluster, key string) [impl.Nodes]string {
	var all [impl.Nodes]string
	for id, x := range c.Nodes {
		all[id] = objTold(hadAt(x, key))
	}
	return all
}

// keyHolds asks what each node has of a key.
func keyHolds(t *testing.T, c cluster, key string, want ...string) {
	t.Helper()
	if got := objsOfKey(c, key); !slices.Equal(got[:], want) {
		t.Error(key, got, "not", want)
	}
}

const none = "0.0.0" // of a key that a node does not have

// Key a belongs to nodes 0 and 1. What both have ahead of an exchange, what they have behind it, and how many were changed.
func TestAnExchangeByHand(t *testing.T) {
	for _, c := range []struct {
		first, second []string // records of nodes 0 and 1
		want          [2]string
		count         int
	}{
		// only the first, only the second, both
		{[]string{"put a 1.0.0|a1=5"}, nil, [2]string{"1.0.0|a1=5", "1.0.0|a1=5"}, 1},
		{nil, []string{"put a 0.1.0|b1=6"}, [2]string{"0.1.0|b1=6", "0.1.0|b1=6"}, 1},
		{[]string{"put a 1.0.0|a1=5"}, []string{"put a 0.1.0|b1=6"}, [2]string{"1.1.0|a1=5|b1=6", "1.1.0|a1=5|b1=6"}, 2},
		{[]string{"put a 1.0.0|a1!"}, []string{"put a 0.1.0|b1=6"}, [2]string{"1.1.0|a1!|b1=6", "1.1.0|a1!|b1=6"}, 2},
		// alike already
		{nil, nil, [2]string{none, none}, 0},
		{[]string{"put a 1.0.0|a1=5"}, []string{"join a 1.0.0|a1=5"}, [2]string{"1.0.0|a1=5", "1.0.0|a1=5"}, 0},
		// nothing new to the one, something to the other
		{[]string{"put a 1.0.0|a1=5", "put a 2.0.0|a2=6"}, []string{"join a 1.0.0|a1=5"}, [2]string{"2.0.0|a2=6", "2.0.0|a2=6"}, 1},
		{[]string{"put a 1.0.0|a1=5"}, []string{"join a 1.0.0|a1=5", "put a 1.1.0|b1!"}, [2]string{"1.1.0|b1!", "1.1.0|b1!"}, 1},
		{[]string{"put a 1.0.0|a1=5"}, []string{"join a 1.0.0|a1=5", "put a 1.1.0|a1=5|b1=6"}, [2]string{"1.1.0|a1=5|b1=6", "1.1.0|a1=5|b1=6"}, 1},
		// what the one knows to be gone
		{[]string{"put a 1.0.0|a1=5", "put a 2.0.0|a2=6"}, []string{"join a 1.0.0|a1=5", "put a 1.1.0|b1=7"}, [2]string{"2.1.0|a2=6|b1=7", "2.1.0|a2=6|b1=7"}, 2},
		{[]string{"put a 1.0.0|a1=5"}, []string{"join a 1.0.0"}, [2]string{"1.0.0", "1.0.0"}, 1},
		// of one event each keeps what it has
		{[]string{"put a 1.0.0|a1=5"}, []string{"join a 1.0.0|a1=7"}, [2]string{"1.0.0|a1=5", "1.0.0|a1=7"}, 0},
		{[]string{"put a 1.0.0|a1=5"}, []string{"join a 1.0.0|a1=7", "put a 1.1.0|a1=7|b1=8"}, [2]string{"1.1.0|a1=5|b1=8", "1.1.0|a1=7|b1=8"}, 1},
	} {
		p := plainClusterOf(t, [impl.Nodes][]string{c.first, c.second, nil})
		for _, pair := range [][2]int{{0, 1}, {1, 0}} {
			for _, up := range []bool{true, false} { // the third one has no part in it
				p.up[2] = up
				got, count, code := impl.Exchange(p.cluster(), pair[0], pair[1])
				if code != impl.OK || count != c.count {
					t.Error("Exchange", pair, c, count, code)
				}
				keyHolds(t, got, "a", c.want[0], c.want[1], none)
				exchangeAct(pair[0], pair[1]).asTold(t, p)
			}
		}
		got, count, code := impl.ReadRepair(p.cluster(), "a")
		if code != impl.OK || count != c.count {
			t.Error("ReadRepair", c, count, code)
		}
		keyHolds(t, got, "a", c.want[0], c.want[1], none)
	}
}

// manyKeys has two keys of each pair of owners, put by both of them, and on the net and in hints what none has got.
func manyKeys(t *testing.T) plainCluster {
	t.Helper()
	p := newPlain(t)
	for value, key := range clusterKeys {
		owners := ownersTold(key)
		p = p.after(t, putAct(owners[0], key, vv{}, value, false), putAct(owners[1], key, vv{}, value+10, false))
	}
	p.hints = p.net[:4]
	return p
}

// Only the keys that both own are exchanged, and nothing else changes: neither other keys, nor messages, nor hints.
func TestAnExchangeLeavesOtherKeys(t *testing.T) {
	p := manyKeys(t)
	was := p.cluster()
	for _, pair := range [][2]int{{0, 1}, {1, 0}, {0, 2}, {2, 0}, {1, 2}, {2, 1}} {
		got, count, code := impl.Exchange(was, pair[0], pair[1])
		if code != impl.OK || count != 4 { // two keys of two nodes
			t.Error("Exchange", pair, count, code)
		}
		for _, key := range clusterKeys {
			owners := ownersTold(key)
			both := joinedTold(p.nodes[owners[0]].objs[key], p.nodes[owners[1]].objs[key])
			for id := range impl.Nodes {
				want := p.nodes[id].objs[key]
				if owners[2] == 3-pair[0]-pair[1] && id != owners[2] {
					want = both
				}
				if !alike(hadAt(got.Nodes[id], key), want) {
					t.Error("Exchange", pair, key, id, hadAt(got.Nodes[id], key), "not", want)
				}
			}
		}
		if !alikeMsgs(got.Net, was.Net) || !alikeMsgs(got.Hints, was.Hints) || !slices.Equal(got.Up, was.Up) {
			t.Error("Exchange", pair, got.Net, got.Hints, got.Up)
		}
		exchangeAct(pair[0], pair[1]).asTold(t, p)
	}
}

// What is taken is sure, one line for each object that was changed, by rising keys.
func TestLinesOfAnExchange(t *testing.T) {
	p := newPlain(t).after(t, putAct(0, "k", vv{}, 1, false), putAct(1, "k", vv{}, 2, false), putAct(1, "a", vv{}, 3, false), putAct(0, "i", vv{}, 4, false))
	if ownersTold("i")[2] != 2 {
		t.Fatal("another key is asked for")
	}
	got, count, code := impl.Exchange(p.cluster(), 0, 1)
	if count != 4 || code != impl.OK {
		t.Error("Exchange", count, code)
	}
	want := [][]string{
		{"put k 1.0.0|a1=1", "put i 2.0.0|a2=4", "join a 0.2.0|b2=3", "join k 1.1.0|a1=1|b1=2"},
		{"put k 0.1.0|b1=2", "put a 0.2.0|b2=3", "join i 2.0.0|a2=4", "join k 1.1.0|a1=1|b1=2"},
		nil,
	}
	for id, x := range got.Nodes {
		if !slices.Equal(recordsIn(x), want[id]) || len(x.Disk.Unsure) > 0 {
			t.Error("node", id, recordsIn(x), x.Disk.Unsure)
		}
	}
	// nothing else is counted or noted as an event
	if got.Nodes[0].Count != 2 || got.Nodes[1].Count != 2 || len(got.Nodes[0].Feed) != 2 || len(got.Nodes[1].Feed) != 2 {
		t.Error("Exchange", got.Nodes)
	}
}

// Without room for a line, a key or a sibling: what has none is lost, and all else is exchanged.
func TestExchangesWithoutRoom(t *testing.T) {
	crowds := crowdedPlains(t)
	mine, theirs := "0.1.0|b1=6", "0.2.0|b2=7" // node 1 has a, and the other key
	for i, c := range []struct {
		p           plainCluster
		first       string // what node 0 has of the other key behind it
		firstOfA    func(had obj) obj
		secondGetsA bool
		count       int
	}{
		// node 0 takes nothing, node 1 what there is
		{crowds.lines, none, func(had obj) obj { return had }, true, 1},
		// node 0 takes a, which it has, and not the other one; node 1 all keys of both
		{crowds.keys, none, func(had obj) obj { return joinedTold(had, objIn(mine)) }, true, 1 + sharedKeys(crowds.keys)},
		// neither has room for all siblings of a
		{crowds.sibs, theirs, func(had obj) obj { return had }, false, 1},
	} {
		had := c.p.nodes[0].objs["a"]
		for _, pair := range [][2]int{{0, 1}, {1, 0}} {
			got, count, code := impl.Exchange(c.p.cluster(), pair[0], pair[1])
			if code != impl.OK || count != c.count {
				t.Error("Exchange", i, pair, count, code)
			}
			secondOfA := objIn(mine)
			if c.secondGetsA {
				secondOfA = joinedTold(objIn(mine), had)
			}
			keyHolds(t, got, otherKey, c.first, theirs, none)
			keyHolds(t, got, "a", objTold(c.firstOfA(had)), objTold(secondOfA), none)
			exchangeAct(pair[0], pair[1]).asTold(t, c.p)
		}
		repairAct("a").asTold(t, c.p)
		repairAct(otherKey).asTold(t, c.p)
	}
}

// sharedKeys counts node 0's keys that node 1 owns too.
func sharedKeys(p plainCluster) int {
	many := 0
	for key := range p.nodes[0].objs {
		if ownersTold(key)[2] == 2 {
			many++
		}
	}
	return many
}

// With room for one line the lowest key has it, whichever node was named first, and whichever has which keys.
func TestTheLowestKeyHasTheLastLine(t *testing.T) {
	full := append(fillers(0, impl.MaxRecords-2, "e"), fmt.Sprintf("put k %d.0.0|a%d=7", impl.MaxRecords-1, impl.MaxRecords-1))
	p := plainClusterOf(t, [impl.Nodes][]string{full, {"put k 0.1.0|b1=1", "put i 0.2.0|b2=2"}, nil})
	had := objTold(p.nodes[0].objs["k"])
	for _, pair := range [][2]int{{0, 1}, {1, 0}} {
		got, count, code := impl.Exchange(p.cluster(), pair[0], pair[1])
		if count != 2 || code != impl.OK || len(got.Nodes[0].Disk.Sure) != impl.MaxRecords {
			t.Error("Exchange", pair, count, code)
		}
		keyHolds(t, got, "i", "0.2.0|b2=2", "0.2.0|b2=2", none)
		keyHolds(t, got, "k", had, objTold(joinedTold(objIn("0.1.0|b1=1"), objIn(had))), none)
	}
	// the same of the last key that there is room for
	keys := keysOwnedBy(1, impl.MaxKeys-1)
	var records []string
	for n, key := range keys {
		records = append(records, fmt.Sprintf("put %s 0.%d.0|b%d=1", key, n+1, n+1))
	}
	p = plainClusterOf(t, [impl.Nodes][]string{{"put k 1.0.0|a1=1", "put i 2.0.0|a2=2"}, records, nil})
	for _, pair := range [][2]int{{0, 1}, {1, 0}} {
		got, _, code := impl.Exchange(p.cluster(), pair[0], pair[1])
		if code != impl.OK || len(got.Nodes[1].Cells) != impl.MaxKeys {
			t.Error("Exchange", pair, code)
		}
		keyHolds(t, got, "i", "2.0.0|a2=2", "2.0.0|a2=2", none)
		keyHolds(t, got, "k", "1.0.0|a1=1", none, none)
	}
}

// Hints of all kinds: which go, which stay, and what their nodes have then.
func hintedPlain(t *testing.T) plainCluster {
	t.Helper()
	p := plainClusterOf(t, [impl.Nodes][]string{
		{"put a 1.0.0|a1=1", "put a 2.0.0|a2=2", "put e 3.0.0|a3=3"},
		{"put b 0.1.0|b1=4", "put a 0.2.0|b2=5"},
		{"put e 0.0.1|c1=6"},
	})
	p.hints = []msg{
		sent(2, 1, "a", "1.0.0|a1=1"),
		sent(0, 1, "b", "0.0.1|c1=9"),
		sent(1, 2, "e", "3.0.0|a3=3"),
		sent(2, 1, "a", "2.0.0|a2=2"), // once more the same key
		sent(2, 0, "a", "0.2.0|b2=5"), // to another node
		sent(0, 2, "b", "0.1.0|b1=4"),
		sent(2, 1, "b", "0.1.0|b1=4"), // brings nothing new
		sent(1, 0, "e", "0.0.1|c1=6"),
		sent(2, 1, "a", "1.0.0|a1=1"), // came already
	}
	p.net = []msg{sent(2, 1, "a", "1.0.0|a1=1"), sent(0, 2, "e", "3.0.0|a3=3")}
	return p
}

func (p plainCluster) hintsAt(places ...int) []msg {
	var list []msg
	for _, i := range places {
		list = append(list, p.hints[i])
	}
	return list
}

func TestAHandoffByHand(t *testing.T) {
	p := hintedPlain(t)
	for _, c := range []struct {
		node  int
		up    [impl.Nodes]bool
		count int
		code  int
		stay  []int
		a     [impl.Nodes]string
	}{
		{2, [3]bool{true, true, true}, 5, impl.OK, []int{1, 2, 5, 7}, [3]string{"2.2.0|a2=2|b2=5", "2.2.0|a2=2|b2=5", none}},
		{2, [3]bool{false, true, true}, 4, impl.OK, []int{1, 2, 4, 5, 7}, [3]string{"2.0.0|a2=2", "2.2.0|a2=2|b2=5", none}},
		{2, [3]bool{true, false, true}, 1, impl.OK, []int{0, 1, 2, 3, 5, 6, 7, 8}, [3]string{"2.2.0|a2=2|b2=5", "0.2.0|b2=5", none}},
		{2, [3]bool{false, false, true}, 0, impl.OK, []int{0, 1, 2, 3, 4, 5, 6, 7, 8}, [3]string{"2.0.0|a2=2", "0.2.0|b2=5", none}},
		{2, [3]bool{true, true, false}, 0, impl.ErrDown, []int{0, 1, 2, 3, 4, 5, 6, 7, 8}, [3]string{"2.0.0|a2=2", "0.2.0|b2=5", none}},
		{0, [3]bool{true, true, true}, 2, impl.OK, []int{0, 2, 3, 4, 6, 7, 8}, [3]string{"2.0.0|a2=2", "0.2.0|b2=5", none}},
		{0, [3]bool{true, true, false}, 1, impl.OK, []int{0, 2, 3, 4, 5, 6, 7, 8}, [3]string{"2.0.0|a2=2", "0.2.0|b2=5", none}},
		{1, [3]bool{true, true, true}, 2, impl.OK, []int{0, 1, 3, 4, 5, 6, 8}, [3]string{"2.0.0|a2=2", "0.2.0|b2=5", none}},
		{1, [3]bool{false, false, false}, 0, impl.ErrDown, []int{0, 1, 2, 3, 4, 5, 6, 7, 8}, [3]string{"2.0.0|a2=2", "0.2.0|b2=5", none}},
	} {
		p.up = c.up
		got, count, code := impl.Handoff(p.cluster(), c.node)
		if count != c.count || code != c.code || !alikeMsgs(got.Hints, p.hintsAt(c.stay...)) {
			t.Error("Handoff", c.node, c.up, count, code, got.Hints)
		}
		if !alikeMsgs(got.Net, p.net) || !slices.Equal(got.Up, c.up[:]) {
			t.Error("Handoff", c.node, c.up, got.Net, got.Up)
		}
		keyHolds(t, got, "a", c.a[:]...)
		handoffAct(c.node).asTold(t, p)
	}
	// one line for each hint that brought something, in the order of the hints
	p.up = [impl.Nodes]bool{true, true, true}
	got, _, _ := impl.Handoff(p.cluster(), 2)
	want := []string{"put b 0.1.0|b1=4", "put a 0.2.0|b2=5", "join a 1.2.0|a1=1|b2=5", "join a 2.2.0|a2=2|b2=5"}
	if records := recordsIn(got.Nodes[1]); !slices.Equal(records, want) || len(got.Nodes[1].Disk.Unsure) > 0 {
		t.Error("Handoff", records, got.Nodes[1].Disk.Unsure)
	}
}

// Hints whose node has no room are lost: they are gone, and told, like those that were taken. What has room is taken.
func TestAHandoffWithoutRoom(t *testing.T) {
	crowds := crowdedPlains(t)
	for i, c := range []struct {
		p        plainCluster
		a, other string // what node 0 has behind it
	}{
		{crowds.lines, objTold(crowds.lines.nodes[0].objs["a"]), none},
		{crowds.keys, objTold(joinedTold(crowds.keys.nodes[0].objs["a"], objIn("0.1.0|b1=6"))), none},
		{crowds.sibs, objTold(crowds.sibs.nodes[0].objs["a"]), "0.2.0|b2=7"},
	} {
		p := c.p
		p.hints = []msg{sent(2, 0, "a", "0.1.0|b1=6"), sent(1, 0, "a", "0.0.0"), sent(2, 0, otherKey, "0.2.0|b2=7"), sent(2, 0, "a", "0.0.0")}
		got, count, code := impl.Handoff(p.cluster(), 2)
		if count != 3 || code != impl.OK || !alikeMsgs(got.Hints, p.hintsAt(1)) || !alikeMsgs(got.Net, p.net) {
			t.Error("Handoff", i, count, code, got.Hints)
		}
		keyHolds(t, got, "a", c.a, "0.1.0|b1=6", none)
		keyHolds(t, got, otherKey, c.other, "0.2.0|b2=7", none)
		handoffAct(2).asTold(t, p)
	}
	// the first of two has the last line, whichever key is the lower one
	for _, first := range []int{0, 1} {
		p := plainClusterOf(t, [impl.Nodes][]string{oneLineLeft(0, "e"), {"put a 0.1.0|b1=6", "put k 0.2.0|b2=7"}, nil})
		p.hints = []msg{sent(2, 0, "a", "0.1.0|b1=6"), sent(2, 0, "k", "0.2.0|b2=7")}
		p.hints = p.hintsAt(first, 1-first)
		got, count, code := impl.Handoff(p.cluster(), 2)
		if count != 2 || code != impl.OK || len(got.Hints) != 0 {
			t.Error("Handoff", first, count, code, got.Hints)
		}
		want := []string{"0.1.0|b1=6", none}
		keyHolds(t, got, "a", want[first], "0.1.0|b1=6", none)
		want = []string{none, "0.2.0|b2=7"}
		keyHolds(t, got, "k", want[first], "0.2.0|b2=7", none)
	}
}

func TestAReadRepairByHand(t *testing.T) {
	p := manyKeys(t)
	was := p.cluster()
	for _, key := range clusterKeys {
		owners := ownersTold(key)
		for _, up := range []bool{true, false} { // the fallback has no part in it
			p.up[owners[2]] = up
			got, count, code := impl.ReadRepair(p.cluster(), key)
			if count != 2 || code != impl.OK || !alikeMsgs(got.Net, was.Net) || !alikeMsgs(got.Hints, was.Hints) {
				t.Error("ReadRepair", key, count, code)
			}
			both := objTold(joinedTold(p.nodes[owners[0]].objs[key], p.nodes[owners[1]].objs[key]))
			want := [impl.Nodes]string{both, both, both}
			want[owners[2]] = none
			keyHolds(t, got, key, want[:]...)
			for _, other := range clusterKeys {
				if other != key && objsOfKey(got, other) != objsOfKey(was, other) {
					t.Error("ReadRepair", key, "changes", other)
				}
			}
		}
		p.up[owners[2]] = true
		for _, down := range owners[:2] {
			p.up[down] = false
			if got, count, code := impl.ReadRepair(p.cluster(), key); count != 0 || code != impl.ErrDown || !alikeClusters(got, p.cluster()) {
				t.Error("ReadRepair", key, down, count, code)
			}
			p.up[down] = true
		}
	}
	// nobody has it
	if got, count, code := impl.ReadRepair(was, "zz"); count != 0 || code != impl.OK || !alikeClusters(got, was) {
		t.Error("ReadRepair", count, code)
	}
}

// Which code is told ahead of which, and what stands beside it.
func TestCodesOfRepairs(t *testing.T) {
	right := hintedPlain(t)
	down := right
	down.up = [impl.Nodes]bool{}
	bad := right.cluster()
	bad.Hints[0].To = 2
	for _, c := range []struct {
		act  act
		of   cluster
		code int
		zero bool
	}{
		{exchangeAct(0, 1), bad, impl.ErrBad, true}, {exchangeAct(0, 0), bad, impl.ErrBad, true}, {exchangeAct(-1, 3), bad, impl.ErrBad, true},
		{exchangeAct(0, 0), right.cluster(), impl.ErrRange, true}, {exchangeAct(2, 2), right.cluster(), impl.ErrRange, true},
		{exchangeAct(-1, 0), right.cluster(), impl.ErrRange, true}, {exchangeAct(0, -1), right.cluster(), impl.ErrRange, true},
		{exchangeAct(3, 0), right.cluster(), impl.ErrRange, true}, {exchangeAct(0, 3), right.cluster(), impl.ErrRange, true},
		{exchangeAct(-1, -1), right.cluster(), impl.ErrRange, true}, {exchangeAct(math.MinInt, math.MaxInt), right.cluster(), impl.ErrRange, true},
		{exchangeAct(1, math.MaxInt), right.cluster(), impl.ErrRange, true}, {exchangeAct(math.MinInt, 1), right.cluster(), impl.ErrRange, true},
		{exchangeAct(0, 0), down.cluster(), impl.ErrRange, true}, {exchangeAct(0, 3), down.cluster(), impl.ErrRange, true},
		{exchangeAct(-1, 0), down.cluster(), impl.ErrRange, true}, {exchangeAct(0, 1), down.cluster(), impl.ErrDown, false},
		{handoffAct(0), bad, impl.ErrBad, true}, {handoffAct(3), bad, impl.ErrBad, true},
		{handoffAct(-1), right.cluster(), impl.ErrRange, true}, {handoffAct(3), right.cluster(), impl.ErrRange, true},
		{handoffAct(math.MinInt), down.cluster(), impl.ErrRange, true}, {handoffAct(math.MaxInt), down.cluster(), impl.ErrRange, true},
		{handoffAct(2), down.cluster(), impl.ErrDown, false},
		{repairAct(longKeys[0]), bad, impl.ErrLong, true}, {repairAct(longKeys[0]), right.cluster(), impl.ErrLong, true},
		{repairAct(longKeys[0]), down.cluster(), impl.ErrLong, true}, {repairAct("a"), bad, impl.ErrBad, true}, {repairAct(""), bad, impl.ErrBad, true},
		{repairAct(""), right.cluster(), impl.ErrKey, true}, {repairAct("A"), right.cluster(), impl.ErrKey, true},
		{repairAct("sevenaa"), down.cluster(), impl.ErrKey, true}, {repairAct("a"), down.cluster(), impl.ErrDown, false},
		{settleAct(), bad, impl.ErrBad, true}, {settleAct(), cluster{}, impl.ErrBad, true},
		{convergedAct(), bad, impl.ErrBad, true}, {convergedAct(), cluster{}, impl.ErrBad, true},
	} {
		got := c.act.ask(c.of)
		want := cluster{}
		if !c.zero {
			want = c.of
		}
		if got.bare() != (clusterAnswer{Code: c.code}).bare() || !alikeClusters(got.Cluster, want) {
			t.Error(c.act.name, short(got.bare()), "not", c.code, "zero:", c.zero, short(got.Cluster))
		}
	}
	// one of two that are asked is down
	for id := range impl.Nodes {
		p := right
		p.up[id] = false
		for other := range impl.Nodes {
			if other == id {
				continue
			}
			for _, a := range []act{exchangeAct(id, other), exchangeAct(other, id), handoffAct(id)} {
				if got := a.ask(p.cluster()); got.bare() != (clusterAnswer{Code: impl.ErrDown}).bare() || !alikeClusters(got.Cluster, p.cluster()) {
					t.Error(a.name, short(got))
				}
			}
		}
	}
}

func TestSettlingANewCluster(t *testing.T) {
	for _, p := range newPlain(t).ups() {
		got, code := impl.SettleAll(p.cluster())
		if code != impl.OK || !alikeClusters(got, impl.NewCluster()) {
			t.Error("SettleAll", p.up, got, code)
		}
		if yes, code := impl.Converged(p.cluster()); !yes || code != impl.OK {
			t.Error("Converged", p.up, yes, code)
		}
	}
}

// Whoever was down: all are up, no hint is left, messages are still on their way, and all have the same.
func TestSettlingByHand(t *testing.T) {
	for _, p := range hintedPlain(t).ups() {
		got, code := impl.SettleAll(p.cluster())
		if code != impl.OK || !slices.Equal(got.Up, []bool{true, true, true}) || len(got.Hints) != 0 || !alikeMsgs(got.Net, p.net) {
			t.Error("SettleAll", p.up, got.Up, got.Hints, got.Net, code)
		}
		keyHolds(t, got, "a", "2.2.0|a2=2|b2=5", "2.2.0|a2=2|b2=5", none)
		keyHolds(t, got, "b", none, "0.1.1|b1=4|c1=9", "0.1.1|b1=4|c1=9") // c1 of b was in a hint alone
		keyHolds(t, got, "e", "3.0.1|a3=3|c1=6", none, "3.0.1|a3=3|c1=6")
		settleAct().asTold(t, p)
		// what comes of the messages then is nothing new
		for len(got.Net) > 0 {
			next := deliverAct(0).got(t, got, impl.OK)
			if !slices.EqualFunc(next.Nodes, got.Nodes, alikeNodes) {
				t.Error("Deliver", got.Net[0])
			}
			got = next
		}
	}
}

// Where there is one line left it is seen who comes first: hints ahead of exchanges, those of node 0 ahead of those of
// node 2, and 0 and 1 ahead of 0 and 2 ahead of 1 and 2.
func TestTheOrderOfSettling(t *testing.T) {
	tight := tightPlains(t)
	for i, c := range []struct{ first, second string }{{"a", "zzzzzz"}, {"k", "w"}, {"e", "w"}} {
		got, code := impl.SettleAll(tight[i].cluster())
		if code != impl.OK || len(got.Nodes[i].Disk.Sure) != impl.MaxRecords {
			t.Error("SettleAll", i, code)
		}
		if isZero(hadAt(got.Nodes[i], c.first)) || !isZero(hadAt(got.Nodes[i], c.second)) {
			t.Error("SettleAll", i, objsOfKey(got, c.first), objsOfKey(got, c.second))
		}
		if yes, code := impl.Converged(got); yes || code != impl.OK {
			t.Error("Converged", i, yes, code)
		}
	}
	for i, c := range []struct {
		hints []msg
		has   string
	}{
		{nil, "k"},
		{[]msg{sent(0, 1, "w", "0.0.1|c1=2")}, "w"},
		{[]msg{sent(2, 1, "k", "1.0.0|a1=1"), sent(0, 1, "w", "0.0.1|c1=2")}, "w"},
		{[]msg{sent(0, 1, "w", "0.0.1|c1=2"), sent(2, 1, "k", "1.0.0|a1=1")}, "w"},
		{[]msg{sent(0, 1, "k", "1.0.0|a1=1"), sent(0, 1, "w", "0.0.1|c1=2")}, "k"},
		{[]msg{sent(2, 1, "k", "1.0.0|a1=1"), sent(2, 1, "w", "0.0.1|c1=2")}, "k"},
		{[]msg{sent(2, 1, "w", "0.0.1|c1=2"), sent(2, 1, "k", "1.0.0|a1=1")}, "w"},
	} {
		p := tight[1]
		p.hints = c.hints
		p.up = [impl.Nodes]bool{}
		got, code := impl.SettleAll(p.cluster())
		for _, key := range []string{"k", "w"} {
			if isZero(hadAt(got.Nodes[1], key)) == (key == c.has) || code != impl.OK {
				t.Error("SettleAll", i, key, objsOfKey(got, key), code)
			}
		}
		settleAct().asTold(t, p)
	}
}

// Whoever is up, and whatever is on its way: the owners' objects alone are held against each other.
func TestConvergedByHand(t *testing.T) {
	for i, c := range []struct {
		records [impl.Nodes][]string
		want    bool
	}{
		{[impl.Nodes][]string{}, true},
		{[impl.Nodes][]string{{"put a 1.0.0|a1=5"}, {"join a 1.0.0|a1=5"}, nil}, true},
		{[impl.Nodes][]string{nil, {"put b 0.1.0|b1!"}, {"join b 0.1.0|b1!"}}, true},
		{[impl.Nodes][]string{{"join e 0.0.1|c1=5"}, nil, {"put e 0.0.1|c1=5"}}, true},
		// one of them has none, of each pair
		{[impl.Nodes][]string{{"put a 1.0.0|a1=5"}, nil, nil}, false},
		{[impl.Nodes][]string{nil, {"put a 0.1.0|b1=5"}, nil}, false},
		{[impl.Nodes][]string{nil, {"put b 0.1.0|b1=5"}, nil}, false},
		{[impl.Nodes][]string{nil, nil, {"put b 0.0.1|c1=5"}}, false},
		{[impl.Nodes][]string{{"put e 1.0.0|a1=5"}, nil, nil}, false},
		{[impl.Nodes][]string{nil, nil, {"put e 0.0.1|c1=5"}}, false},
		// the one has more, knows more, or has another value
		{[impl.Nodes][]string{{"put a 1.0.0|a1=5", "put a 2.0.0|a2=6"}, {"join a 1.0.0|a1=5"}, nil}, false},
		{[impl.Nodes][]string{{"put a 1.0.0|a1=5", "put e 2.0.0|a2=6", "join a 2.0.0|a1=5"}, {"join a 1.0.0|a1=5"}, {"join e 2.0.0|a2=6"}}, false},
		{[impl.Nodes][]string{{"put a 1.0.0|a1=5"}, {"join a 1.0.0|a1=6"}, nil}, false},
		{[impl.Nodes][]string{{"put a 1.0.0|a1=0"}, {"join a 1.0.0|a1!"}, nil}, false},
		{[impl.Nodes][]string{{"put a 1.0.0|a1=5"}, {"join a 1.0.0"}, nil}, false},
		// one key is not enough, neither the first nor the last
		{[impl.Nodes][]string{{"put a 1.0.0|a1=5", "put k 2.0.0|a2=6"}, {"join a 1.0.0|a1=5"}, nil}, false},
		{[impl.Nodes][]string{{"put a 1.0.0|a1=5", "put k 2.0.0|a2=6"}, {"join k 2.0.0|a2=6"}, nil}, false},
		{[impl.Nodes][]string{{"put a 1.0.0|a1=5", "put k 2.0.0|a2=6"}, {"join k 2.0.0|a2=6", "join a 1.0.0|a1=5"}, nil}, true},
		{[impl.Nodes][]string{{"put a 1.0.0|a1=5", "put e 2.0.0|a2=6"}, {"join a 1.0.0|a1=5"}, {"join e 2.0.0|a2=6"}}, true},
		{[impl.Nodes][]string{{"put a 1.0.0|a1=5", "put e 2.0.0|a2=6"}, {"join a 1.0.0|a1=5"}, nil}, false},
	} {
		p := plainClusterOf(t, c.records)
		for _, p := range p.ups() {
			if yes, code := impl.Converged(p.cluster()); yes != c.want || code != impl.OK {
				t.Error("Converged", i, p.up, yes, code)
			}
			convergedAct().asTold(t, p)
		}
	}
	// a message or a hint of what nobody has
	p := somePlain(t).after(t, settleAct())
	p.net, p.hints = []msg{sent(2, 1, "w", "1.1.1|a1=5")}, []msg{sent(0, 1, "b", "2.2.1|c1=1")}
	if yes, code := impl.Converged(p.cluster()); !yes || code != impl.OK {
		t.Error("Converged", yes, code)
	}
}
