package tests

import (
	"fmt"
	"slices"
	"strings"
	"testing"

	"loop.example/g00535/impl"
)

// noting has one record more at a node, whatever the events are.
func (w plainWorld) noting(t *testing.T, id int, record string) plainWorld {
	t.Helper()
	w.plainCluster = w.noted(t, id, record)
	return w
}

// withDeeds has other events.
func (w plainWorld) withDeeds(texts ...string) plainWorld {
	w.deeds = deedsIn(texts...)
	return w
}

// withDeed has other events, of which one was changed.
func (w plainWorld) withDeed(i int, change func(e *deed)) plainWorld {
	w.deeds = slices.Clone(w.deeds)
	change(&w.deeds[i])
	return w
}

func (w plainWorld) withMsgs(net, hints []msg) plainWorld {
	w.net, w.hints = net, hints
	return w
}

// judged asks that just these answers come, of the program and of what is worked out.
func (w plainWorld) judged(t *testing.T, want verdict, what ...any) {
	t.Helper()
	if got := w.auditsAsTold(t); got != want {
		t.Error(append(what, got, "not", want)...)
	}
}

// somethingDone has events of two keys at all of their owners, or on their way there: nodes 0 and 1 own key a, 1 and 2 own
// key b. Key k belongs to 0 and 1, too, w to 1 and 2, and e to 2 and 0.
func somethingDone(t *testing.T) plainWorld {
	t.Helper()
	return newPlainWorld(t).doing(t, "put 0 a 5", "put 1 a 6 blind", "put 1 b 7", "crash 2", "put 1 b 8", "poll 0 9", "poll 1 1")
}

// Worlds that are right, and of which one answer is no, or some are: told by hand.
func TestAuditsByHand(t *testing.T) {
	some := somethingDone(t)
	notBounded, notSettled, notViewed := verdict{false, true, true, true}, verdict{true, false, true, true}, verdict{true, true, true, false}
	neither := verdict{false, false, true, true}
	for _, c := range []struct {
		name string
		w    plainWorld
		want verdict
	}{
		{"a new one", newPlainWorld(t), allTrue},
		{"something", some, allTrue},
		// keys without events
		{"a key that nobody put", some.noting(t, 0, "join k 0.1.0"), notBounded},
		{"a sibling of a key that nobody put", some.noting(t, 1, "join k 1.0.0|a1=5"), notBounded},
		{"a tombstone of a key that nobody put", some.noting(t, 2, "join e 1.0.0|a1!"), notBounded},
		// a key's object with what its events do not make
		{"a sibling of no event of its key", some.noting(t, 0, "join a 1.2.0|a1=5|b1=6|b2=7"), neither},
		{"an event of its node, but of another key", some.noting(t, 1, "join a 1.3.0|a1=5|b1=6|b3=8"), neither},
		{"knowing of events that were not", some.noting(t, 0, "join a 1.2.0|a1=5|b1=6"), neither},
		{"knowing of nothing but these", some.noting(t, 2, "join b 1.0.0"), neither},
		{"knowing what stands to be gone", some.noting(t, 0, "join a 1.1.0|a1=5"), neither},
		{"knowing all to be gone", some.noting(t, 1, "join a 1.1.0"), neither},
		// events with another value: each is there, with its own value
		{"another value at one owner", some.noting(t, 0, "join a 1.1.0|a1=5|b1=9"), notSettled},
		{"a tombstone at one owner", some.noting(t, 0, "join a 1.1.0|a1=5|b1!"), notSettled},
		{"another value", some.withDeed(1, func(e *deed) { e.Value = 9 }), notSettled},
		{"another value of what was overwritten", some.withDeed(2, func(e *deed) { e.Value = 9 }), allTrue},
		{"a tombstone", some.withDeed(1, func(e *deed) { e.Value, e.Dead = 0, true }), notSettled},
		{"no tombstone", newPlainWorld(t).doing(t, "delete 0 a").withDeeds("a1 a 0 0.0.0"), notSettled},
		// events of another key, and with other contexts
		{"an event of another key", some.withDeed(1, func(e *deed) { e.Key = "k" }), verdict{false, false, true, true}},
		{"an event that knew more", some.withDeed(1, func(e *deed) { e.Ctx = vv{1, 0, 0} }), notSettled},
		{"an event that knew less", some.withDeed(3, func(e *deed) { e.Ctx = vv{} }), neither},
		{"an event that knew another key's", some.withDeed(3, func(e *deed) { e.Ctx = vv{1, 2, 0} }), notSettled},
		// a sibling that is not of its key's events, though these know it: joined to them it is gone
		{"what its events know", plainWorldOf(t, plainClusterOf(t, [impl.Nodes][]string{{"put e 1.0.0|a1=3", "put a 2.0.0|a1=3|a2=5"}})), notSettled},
		// a key of which there is an event, and that no node has
		{"a key that no node has", newPlainWorld(t).doing(t, "put 0 a 5", "put 0 a 6").withDeeds("a1 k 5 0.0.0", "a2 a 6 1.0.0"), notSettled},
		{"keys that no node has", newPlainWorld(t).doing(t, "put 0 a 5", "put 1 b 6").withDeeds("a1 w 5 0.0.0", "b1 k 6 0.0.0"), neither},
		{"a key that one owner has under another name", newPlainWorld(t).doing(t, "put 0 a 5").withDeeds("a1 k 5 0.0.0"), neither},
		// the view
		{"a row of no event", some.withRows(rowsIn("3 a 7")), notViewed},
		{"a row of a key without events", some.withRows(rowsIn("1 k 5")), notViewed},
		{"a row of another key's event", some.withRows(rowsIn("1 a 5", "3 a 7")), notViewed},
		// all at once
		{"all that can be wrong", some.noting(t, 0, "join a 1.2.0|a1=9").withRows(rowsIn("3 a 7")), verdict{false, false, true, false}},
	} {
		c.w.judged(t, c.want, c.name)
	}
}

// A world whose node 0 has many lines of key e, and of four more keys that it owns with node 2; all of these know no more than
// what events of node 2 know. Of those it has nothing yet.
func tightWorld(t *testing.T, lines int) plainWorld {
	t.Helper()
	keys := []string{"e"}
	for i := 0; len(keys) < 5; i++ {
		if key := keyNumber(i); ownersTold(key)[2] == 1 {
			keys = append(keys, key)
		}
	}
	first, third := []string{"put e 1.0.0|a1=5"}, []string{}
	deeds := []deed{{Dot: dot{Node: 0, N: 1}, Key: "e", Value: 5}}
	for n := 1; n <= 60; n++ {
		deeds = append(deeds, deed{Dot: dot{Node: 1, N: n}, Key: "b", Value: n, Ctx: vv{0, n - 1, 0}})
	}
	for i, key := range keys {
		for n := 1; n <= 60 && len(first) < lines; n++ {
			seen := vv{0, n, 0}
			if key == "e" {
				seen[0] = 1
			}
			o := object(seen)
			if key == "e" {
				o.Sibs = []sibling{live(0, 1, 5)}
			}
			first = append(first, "join "+key+" "+objTold(o))
		}
		event := deed{Dot: dot{Node: 2, N: i + 1}, Key: key, Value: i, Ctx: vv{0, 60, 0}}
		deeds = append(deeds, event)
		third = append(third, fmt.Sprintf("put %s 0.60.%d|c%d=%d", key, i+1, i+1, i))
	}
	w := plainWorldOf(t, plainClusterOf(t, [impl.Nodes][]string{first, fillers(1, 60, "b"), third}))
	w.deeds = deeds
	return w
}

// An owner that has no room for what it should have: all is settled, but it has less than all events make.
func TestOwnersThatHaveLess(t *testing.T) {
	for lines := impl.MaxRecords - 8; lines <= impl.MaxRecords; lines++ {
		want := allTrue
		want.settled = lines <= impl.MaxRecords-5 // five keys are to be taken
		w := tightWorld(t, lines)
		w.judged(t, want, lines)
		if len(w.records[0]) != lines {
			t.Error("lines", len(w.records[0]), "not", lines)
		}
	}
	for keys := impl.MaxKeys - 2; keys <= impl.MaxKeys; keys++ {
		var records []string
		for _, key := range keysOwnedBy(0, keys) {
			records = append(records, "join "+key+" 0.1.0")
		}
		w := plainWorldOf(t, plainClusterOf(t, [impl.Nodes][]string{records, {"put k 0.1.0|b1=7"}, nil}))
		w.judged(t, verdict{false, keys < impl.MaxKeys, true, true}, keys)
	}
}

// All that was done reaches all owners, wherever it is when it is asked for: nothing of that is in the way of the answers,
// and nothing of it is done to the world that was asked about.
func TestSettledAheadOfSettling(t *testing.T) {
	unlike := 0
	for _, acts := range []string{
		"put 0 a 5", "put 1 a 5", "put 2 e 5; put 0 e 6; put 1 b 7", "put 0 a 5; put 1 a 6 blind; put 0 a 7 blind", // on their way
		"put 0 a 5; drop 0", "put 0 a 5; put 0 a 6; drop 1; drop 0", "put 0 a 5; twice 0; twice 0; deliver 1", // lost, and doubled
		"crash 1; put 0 a 5", "crash 1; put 0 a 5; put 0 a 6 blind", "crash 1; crash 2; put 0 a 5", // a hint, two, and none
		"crash 1; put 0 a 5; crash 2", "crash 1; put 0 a 5; crash 0; crash 2", "put 0 a 5; crash 0; crash 1; crash 2", // nobody is up
		"put 0 a 5; put 1 b 6; put 2 e 7; crash 0; crash 1; crash 2", "crash 1; put 0 a 5; put 2 b 6; back 1", "crash 1; put 0 a 5; back 1; handoff 2",
		"put 0 a 5; delete 1 a", "put 0 a 5; deliver 0; delete 1 a; drop 0", "delete 0 a", "delete 0 a; delete 1 a blind; crash 0", // tombstones
		"torn 0 a 5 0 9", "torn 0 a 5 1 0", "put 0 a 5; torn 1 a 6 0 100", "put 0 a 5; torn 1 a 6 0 9; put 0 a 7", // torn
		"put 0 a 5; exchange 0 0; put 1 a 6; exchange 0 1", "put 0 a 5; cut 0 1; poll 1 9; resync 0; crash 0", "put 0 a 5; poll 0 9; delete 0 a; takeover 2",
		"put 0 a 5; deliver 0; put 0 a 6; put 1 a 7; crash 0", "crash 0; put 1 a 5; put 2 e 6; crash 1; back 0; put 0 a 7 blind; put 0 e 8",
	} {
		w := newPlainWorld(t).doing(t, strings.Split(acts, ";")...)
		given := w.world()
		w.judged(t, allTrue, acts)
		same, code := impl.Converged(given.Cluster)
		if code != impl.OK || !alikeWorlds(given, w.world()) {
			t.Error("Converged", acts, code)
		}
		if !same {
			unlike++
		}
	}
	if unlike < 15 { // else it would show little
		t.Error("worlds whose owners were unlike:", unlike)
	}
}

// What is with nobody but in a hint is handed over when all is settled; what is on the net alone is not.
func TestWhatIsOnItsWayAlone(t *testing.T) {
	w := newPlainWorld(t).doing(t, "put 0 e 5", "drop 0").withDeeds("a1 a 5 0.0.0") // node 0 took it for another key
	there := []msg{sent(0, 1, "a", "1.0.0|a1=5")}
	w.judged(t, verdict{false, false, true, true}, "nowhere")
	w.withMsgs(there, nil).judged(t, verdict{false, false, true, true}, "on the net")
	w.withMsgs(nil, there).judged(t, verdict{false, true, true, true}, "a hint")
	w.withMsgs(there, there).judged(t, verdict{false, true, true, true}, "both")
	// messages and hints are no objects of nodes
	w = newPlainWorld(t).doing(t, "put 0 a 5", "deliver 0")
	more := []msg{sent(1, 0, "k", "1.0.0|a1=7")}
	w.withMsgs(more, nil).judged(t, allTrue, "more on the net")
	w.withMsgs(nil, more).judged(t, allTrue, "more in a hint")
}

// Each choice of rows: a value is true if some event of its key had it that is no tombstone, overwritten or not.
func TestViewsByHand(t *testing.T) {
	w := newPlainWorld(t).doing(t, "put 0 a 5", "put 0 a 8", "delete 0 e", "put 1 b 0", "delete 1 b", "put 2 e 999", "put 0 a 9 blind", "crash 1")
	for _, c := range []struct {
		rows []string
		want bool
	}{
		{nil, true}, {[]string{"0 a 8"}, true}, {[]string{"1 a 5"}, true}, {[]string{"1 a 5 9"}, true}, {[]string{"0 b 0"}, true}, {[]string{"3 e 999"}, true},
		{[]string{"0 a 8", "0 b 0", "1 a 5 9", "3 e 999"}, true},
		{[]string{"0 e 0"}, false},                                                           // a tombstone alone
		{[]string{"0 a 0"}, false}, {[]string{"1 b 5"}, false}, {[]string{"3 a 999"}, false}, // of another key
		{[]string{"1 a 1"}, false}, {[]string{"1 a 13"}, false}, {[]string{"0 zzzzzz 0"}, false}, // of no event
		{[]string{"1 a 1 5 9"}, false}, {[]string{"1 a 5 7"}, false}, {[]string{"1 a 5"}, true}, // at each place of a row
		{[]string{"1 a 5 9 13"}, false}, {[]string{"0 e 0", "1 a 5"}, false}, // and of a list
		{[]string{"0 a 8", "0 e 0", "1 a 5"}, false}, {[]string{"0 a 8", "1 a 5", "3 e 3"}, false}, // the midst, and the end
		{[]string{"0 ab 8"}, false}, {[]string{"1 aa 5"}, false},
	} {
		rows := rowsIn(c.rows...)
		if !rowsRight(rows) {
			if c.want {
				t.Error("rows", rows)
			}
			if got, code := impl.ViewTrue(w.withRows(rows).world()); got || code != impl.ErrBad {
				t.Error("ViewTrue of wrong rows", rows, got, code)
			}
			continue
		}
		want := allTrue
		want.view = c.want
		w.withRows(rows).judged(t, want, rows)
	}
	// rows of all parts and keys, each of many values, one of which is of no event
	var deeds []string
	records := []string{}
	for n := 1; n <= 100; n++ {
		deeds = append(deeds, fmt.Sprintf("a%d a %d 0.0.0", n, 9*n))
		records = append(records, siblingOfMany(n))
	}
	many := plainWorldOf(t, plainClusterOf(t, [impl.Nodes][]string{records})).withDeeds(deeds...)
	rows := factsOf(many.nodes[0].objs).rows()
	many.withRows(rows).judged(t, allTrue, "a hundred values")
	for i, r := range rows {
		for k, value := range r.Values {
			if k%8 > 0 {
				continue
			}
			wrong := copyOfRows(rows)
			wrong[i].Values = inValueOrder(append(slices.Delete(wrong[i].Values, k, k+1), (value+4)%1000))
			many.withRows(wrong).judged(t, verdict{true, true, true, false}, i, k)
		}
	}
}

// siblingOfMany is the n-th put of node 0, none of which knew another.
func siblingOfMany(n int) string {
	o := object(vv{n})
	for i := 1; i <= n; i++ {
		o.Sibs = append(o.Sibs, live(0, i, 9*i))
	}
	return "put a " + objTold(o)
}

func inValueOrder(values []int) []int {
	slices.Sort(values)
	return values
}

// A stream has nothing but what is acknowledged, and nothing else is acknowledged but events: of a right world the answer
// is yes. One that has another event, or one twice, is of no right world.
func TestStreamsByHand(t *testing.T) {
	w := newPlainWorld(t).doing(t, "put 0 a 5", "put 0 a 6", "put 1 b 7", "cut 0 1")
	for _, stream := range []string{"", "a1", "a2", "b1", "a1 a2", "a1 b1", "b1 a1", "b1 a2", "a1 b1 a2", "b1 a1 a2", "a1 a2 b1"} {
		w.group = group{Epoch: 2, Owner: 1, Acked: vv{2, 1, 0}, Stream: dotsIn(strings.Fields(stream)...)}
		w.judged(t, allTrue, stream)
	}
	for _, stream := range []string{"a3", "c1", "b2", "a1 a1", "a1 b1 a1", "b1 b1", "a2 a1", "a1 a2 a3", "a1 a2 b1 c1", "a1 a2 b1 b1", "b2 a1", "a9999"} {
		w.group = group{Epoch: 2, Owner: 1, Acked: vv{2, 1, 0}, Stream: dotsIn(strings.Fields(stream)...)}
		if got := auditsOf(t, w.world(), impl.ErrBad); got != (verdict{}) {
			t.Error(stream, got)
		}
		// not even if all of it is acknowledged
		w.group.Acked = vv{9999, 9999, 9999}
		if got := auditsOf(t, w.world(), impl.ErrBad); got != (verdict{}) {
			t.Error(stream, got)
		}
	}
}

// Right worlds of all kinds, nodes that are up and down, messages and hints, crowds, and rows that are none of theirs.
func TestAuditsOfAllWorlds(t *testing.T) {
	met := map[verdict]int{}
	for _, w := range append(plainWorlds(t), tightWorld(t, impl.MaxRecords), tightWorld(t, 100)) {
		met[w.auditsAsTold(t)]++
		w.textAsTold(t)
		for id := range impl.Nodes {
			nodeTextAsTold(t, givenNode{w.world().Cluster.Nodes[id], true})
		}
	}
	for _, want := range []verdict{allTrue, {true, true, true, false}, {true, false, true, true}, {false, false, true, true}, {false, false, true, false}} {
		if met[want] == 0 { // else it would show little
			t.Error("no world with", want, met)
		}
	}
}

// Of worlds that are not right, whatever part of them it is, there is no answer, no text, and nothing beside the code.
func TestAuditsOfWrongWorlds(t *testing.T) {
	for i, w := range wrongWorlds(t) {
		was := copyOfWorld(w)
		if got := auditsOf(t, w, impl.ErrBad); got != (verdict{}) {
			t.Fatal("audits of wrong world", i, got)
		}
		if text, code := impl.WorldText(w); len(text) > 0 || code != impl.ErrBad {
			t.Fatal("WorldText of wrong world", i, text, code)
		}
		if !alikeWorlds(w, was) {
			t.Fatal("wrong world is changed", i, short(w))
		}
	}
}

// Nodes without keys, with one, and with many; with lines that are sure and that are not, with cuts, and with objects of no
// sibling and of many.
func TestNodeTexts(t *testing.T) {
	for _, nodes := range [][]node{rightNodes(t), feedNodes(t), viewNodes(t)} {
		for _, x := range nodes {
			nodeTextAsTold(t, givenNode{x, true})
		}
	}
	for i, x := range wrongNodes(t) {
		was := copyOfNode(x)
		if text, code := impl.NodeText(x); len(text) > 0 || code != impl.ErrBad || !alikeNodes(x, was) {
			t.Error("NodeText of wrong node", i, short(text), code)
		}
	}
}

func TestNodeTextsByHand(t *testing.T) {
	for _, c := range []struct {
		x    node
		want []string
	}{
		{node{Id: 0}, []string{"node 0 events 0 cut 0 lines 0"}},
		{node{Id: 2, Cells: []cell{}, Feed: []entry{}, Disk: disk{Sure: []string{}}}, []string{"node 2 events 0 cut 0 lines 0"}},
		{sureTold(t, 1, "put b 0.1.0|b1=5"), []string{"node 1 events 1 cut 0 lines 1", "b 0.1.0|b1=5"}},
		{nodeTold(t, 1, 0, "put b 0.1.0|b1!"), []string{"node 1 events 1 cut 0 lines 1", "b 0.1.0|b1!"}}, // not sure yet
		{nodeTold(t, 0, 3, someRecords...), []string{"node 0 events 4 cut 3 lines 8", "a 2.0.0|a2=6", "b 3.0.4|a1=5|a3=7|c4!", "zzzzzz 4.9.0|a4!"}},
		{sureTold(t, 2, "join b 0.1.0"), []string{"node 2 events 0 cut 0 lines 1", "b 0.1.0"}}, // no sibling
		{sureTold(t, 2, "join b 9999.9999.0|a9999=999|b1=0"), []string{"node 2 events 0 cut 0 lines 1", "b 9999.9999.0|a9999=999|b1=0"}},
		{sureTold(t, 0, fillers(0, impl.MaxRecords, "a")...), []string{"node 0 events 300 cut 0 lines 300", "a 300.0.0|a300=300"}},
		{sureTold(t, 1, append(fillers(1, impl.MaxRecords-1, "a"), "cut 299")...), []string{"node 1 events 299 cut 299 lines 300", "a 0.299.0|b299=299"}},
		{sureTold(t, 1, append(fillers(1, impl.MaxRecords-2, "a"), "cut 7", "cut 100")...), []string{"node 1 events 298 cut 100 lines 300", "a 0.298.0|b298=298"}},
	} {
		if got, code := impl.NodeText(c.x); !slices.Equal(got, c.want) || code != impl.OK {
			t.Error("NodeText", short(c.x), got, code, "not", c.want)
		}
	}
	many := nodeTextAsTold(t, givenNode{sureTold(t, 0, puts(1, impl.MaxKeys, eachItsKey)...), true})
	if len(many) != 1+impl.MaxKeys || many[1] != "aa 1.0.0|a1=1" || many[27] != "ba 27.0.0|a27=27" || many[100] != "dv 100.0.0|a100=100" {
		t.Error("NodeText of many keys", many)
	}
	all := nodeTextAsTold(t, givenNode{sureTold(t, 0, siblingsOf("k", impl.MaxSibs)...), true})
	if len(all) != 2 || !strings.HasPrefix(all[1], "k 100.0.0|a1=1|a2=2|") || !strings.HasSuffix(all[1], "|a99=99|a100=100") || strings.Count(all[1], "|") != 100 {
		t.Error("NodeText of many siblings", all)
	}
}

// The least and the greatest of each number that is told of a world.
func TestWorldTextsByHand(t *testing.T) {
	text := func(w plainWorld, want ...string) {
		t.Helper()
		if got := w.textAsTold(t); !slices.Equal(got, want) {
			t.Error("WorldText", got, "not", want)
		}
	}
	w := newPlainWorld(t)
	text(w, "node 0 up events 0 keys 0", "node 1 up events 0 keys 0", "node 2 up events 0 keys 0", "net 0 hints 0", "group epoch 1 owner 0 acked 0.0.0")
	text(w.doing(t, "crash 0", "crash 1", "crash 2"), "node 0 down events 0 keys 0", "node 1 down events 0 keys 0", "node 2 down events 0 keys 0", "net 0 hints 0", "group epoch 1 owner 0 acked 0.0.0")
	text(somethingDone(t), "node 0 up events 1 keys 1", "node 1 up events 3 keys 2", "node 2 down events 0 keys 0", "net 3 hints 1", "group epoch 1 owner 0 acked 1.1.0")
	full := plainWorldOf(t, fullPlains(t)[2]).followed(newestEpoch, 2, vv{2, 1, 0})
	text(full, "node 0 up events 2 keys 2", "node 1 up events 2 keys 2", "node 2 up events 1 keys 1", "net 60 hints 60", "group epoch 1000000 owner 2 acked 2.1.0")
	one := plainWorldOf(t, plainClusterOf(t, [impl.Nodes][]string{nil, nil, fillers(2, 100, "e")})).followed(7, 1, vv{0, 0, 100})
	text(one, "node 0 up events 0 keys 0", "node 1 up events 0 keys 0", "node 2 up events 100 keys 1", "net 0 hints 0", "group epoch 7 owner 1 acked 0.0.100")
	text(plainWorldOf(t, keysOfFirst(t, impl.MaxKeys)), "node 0 up events 2 keys 100", "node 1 up events 2 keys 2", "node 2 up events 0 keys 0", "net 0 hints 0", "group epoch 1 owner 0 acked 0.0.0")
	text(somethingDone(t).doing(t, "takeover 1", "back 2", "cut 1 3", "resync 1", "handoff 0", "deliver 0", "drop 0", "crash 1"),
		"node 0 up events 1 keys 1", "node 1 down events 3 keys 2", "node 2 up events 0 keys 1", "net 1 hints 0", "group epoch 2 owner 1 acked 1.3.0")
	for choice, p := range somePlain(t).ups() {
		got := plainWorldOf(t, p).textAsTold(t)
		for id := range impl.Nodes {
			if strings.Contains(got[id], " up ") != (choice>>id&1 == 1) || strings.Contains(got[id], " down ") == (choice>>id&1 == 1) {
				t.Error("WorldText", choice, got)
			}
		}
	}
}
