package tests

import (
	"fmt"
	"math"
	"slices"
	"strings"
	"testing"

	"loop.example/g00535/impl"
)

func TestWorldConstants(t *testing.T) {
	kinds := []int{impl.AcPut, impl.AcDelete, impl.AcDeliver, impl.AcDrop, impl.AcTwice, impl.AcCrash, impl.AcBack, impl.AcTorn, impl.AcExchange,
		impl.AcHandoff, impl.AcPoll, impl.AcTakeover, impl.AcCut, impl.AcResync}
	for i, kind := range kinds {
		if kind != i+1 {
			t.Error("kind", i, kind)
		}
	}
	if impl.MaxActs != 80 {
		t.Error("MaxActs", impl.MaxActs)
	}
}

func TestNewWorld(t *testing.T) {
	want := world{Cluster: cluster{Nodes: []node{{Id: 0}, {Id: 1}, {Id: 2}}, Up: []bool{true, true, true}}, Group: group{Epoch: 1}}
	for range 3 {
		w := impl.NewWorld()
		if !alikeWorlds(w, want) || !impl.WorldOK(w) || !impl.SameWorld(w, want) {
			t.Error("NewWorld", w)
		}
		scribble(w.Cluster.Nodes, node{Id: 7})
		scribble(w.Cluster.Up, false)
		w.Events, w.Group.Stream, w.Rows = append(w.Events, deed{}), append(w.Group.Stream, dot{}), append(w.Rows, row{})
	}
}

func (w plainWorld) counts() vv {
	var counts vv
	for id, x := range w.nodes {
		counts[id] = x.count
	}
	return counts
}

// followed has the group acknowledge the first events of each node, one of each in turn.
func (w plainWorld) followed(epoch, owner int, upTo vv) plainWorld {
	w.group = group{Epoch: epoch, Owner: owner, Acked: upTo}
	for n := 1; n <= 100; n++ {
		for id, last := range upTo {
			if n <= last {
				w.group.Stream = append(w.group.Stream, dot{Node: id, N: n})
			}
		}
	}
	return w
}

func (w plainWorld) withRows(rows []row) plainWorld {
	w.rows = rows
	return w
}

// groupsAndRows has a world with nothing, some and all of its events acknowledged, at the first and the last epochs, and
// with several rows.
func (w plainWorld) groupsAndRows() []plainWorld {
	counts := w.counts()
	half := counts
	for id := range half {
		half[id] /= 2
	}
	passed := w
	passed.group = group{Epoch: 2, Owner: 2, Acked: counts} // all of it was passed over
	view := factsOf(w.nodes[0].objs).rows()
	return []plainWorld{
		w,
		w.followed(7, 1, counts).withRows(view),
		w.followed(newestEpoch, 2, half).withRows(viewRows),
		w.followed(newestEpoch-1, 0, half).withRows(rowsOfPart(3, mostRows)),
		passed.withRows(rowsOfPart(2, mostRows-1)),
	}
}

// linesOfFirst has so many records of node 0, two of which are puts, and as many events of node 1 as these know.
func linesOfFirst(t *testing.T, many int) plainCluster {
	t.Helper()
	records := []string{"put a 1.0.0|a1=5", "put e 2.0.0|a2=6"}
	for i, key := range keysOwnedBy(0, 5) {
		for n := 1; n <= 60 && len(records) < many; n++ {
			records = append(records, fmt.Sprintf("join %s %d.%d.0", key, i%3, n))
		}
	}
	return plainClusterOf(t, [impl.Nodes][]string{records, fillers(1, 60, "k"), nil})
}

// keysOfFirst has so many keys at node 0, of which it has put two.
func keysOfFirst(t *testing.T, many int) plainCluster {
	t.Helper()
	records := []string{"put a 1.0.0|a1=5", "put e 2.0.0|a2=6"}
	for _, key := range keysOwnedBy(0, many-2) {
		records = append(records, "join "+key+" 1.1.0|a1=9")
	}
	return plainClusterOf(t, [impl.Nodes][]string{records, {"put k 0.1.0|b1=7", "put a 0.2.0|b2=7"}, nil})
}

// Worlds without room: node 0 has as many lines, or keys, as it may have, or one less. On the net are messages to it.
func crowdedWorlds(t *testing.T) []plainWorld {
	t.Helper()
	var all []plainWorld
	for _, p := range []plainCluster{linesOfFirst(t, impl.MaxRecords-1), linesOfFirst(t, impl.MaxRecords), keysOfFirst(t, impl.MaxKeys-1), keysOfFirst(t, impl.MaxKeys)} {
		p.net = []msg{sent(1, 0, "k", "0.1.0|b1=7"), sent(1, 0, "a", "0.1.0|b1=7"), sent(1, 0, "e", "0.0.0"), sent(0, 1, "a", "1.0.0|a1=5")}
		p.hints = []msg{sent(2, 0, "k", "0.1.0|b1=7"), sent(2, 1, "a", "1.0.0|a1=5")}
		all = append(all, plainWorldOf(t, p))
	}
	return all
}

// eventful has so many events: of all nodes, the most of the first two.
func eventful(t *testing.T, many int) plainWorld {
	t.Helper()
	return plainWorldOf(t, plainClusterOf(t, [impl.Nodes][]string{fillers(0, 40, "a"), fillers(1, 40, "b"), fillers(2, many-80, "e")}))
}

func plainWorlds(t *testing.T) []plainWorld {
	t.Helper()
	all := newPlainWorld(t).groupsAndRows()
	for i, p := range somePlain(t).ups() {
		w := plainWorldOf(t, p).groupsAndRows()
		all = append(all, w[i%len(w)], w[(i+2)%len(w)])
	}
	some := plainWorldOf(t, somePlain(t)).groupsAndRows()
	all = append(all, some...)
	for i, w := range append(crowdedWorlds(t), eventful(t, 99), eventful(t, 100)) {
		down := w
		down.up = [impl.Nodes]bool{i%2 == 0, false, true}
		all = append(all, w, w.groupsAndRows()[1+i%4], down)
	}
	for _, p := range fullPlains(t) {
		all = append(all, plainWorldOf(t, p), plainWorldOf(t, p).groupsAndRows()[2])
	}
	return all
}

func TestRightWorlds(t *testing.T) {
	for i, w := range plainWorlds(t) {
		if !impl.WorldOK(w.world()) {
			t.Error("WorldOK of right world", i, short(w.world()))
		}
	}
	empty := world{Cluster: cluster{Nodes: []node{{Id: 0}, {Id: 1, Cells: []cell{}, Feed: []entry{}}, {Id: 2}}, Up: make([]bool, 3), Net: []msg{}, Hints: []msg{}},
		Events: []deed{}, Group: group{Epoch: 1, Stream: []dot{}}, Rows: []row{}}
	if !impl.WorldOK(empty) {
		t.Error("WorldOK of empty lists")
	}
}

// changedWorlds has one copy for each change of a world that was right.
func changedWorlds(w plainWorld, changes ...func(w *world)) []world {
	var all []world
	for _, change := range changes {
		x := w.world()
		change(&x)
		all = append(all, x)
	}
	return all
}

// Each part in turn is one that is not right by itself; all others are.
func wrongPartsOfWorlds(t *testing.T) []world {
	some := plainWorldOf(t, somePlain(t))
	var all []world
	for _, c := range wrongClusters(t) {
		all = append(all, changedWorlds(some, func(w *world) { w.Cluster = c })...)
	}
	for _, g := range wrongGroups() {
		all = append(all, changedWorlds(some, func(w *world) { w.Group = g })...)
	}
	for _, rows := range append(wrongRows(), longRows()...) {
		all = append(all, changedWorlds(some, func(w *world) { w.Rows = rows })...)
	}
	for _, list := range slices.Concat(wrongOrdersOfDeeds(), wrongContextsOfDeeds(), wrongPartsOfDeeds(), tooManyDeeds()) {
		all = append(all, changedWorlds(some, func(w *world) { w.Events = list })...)
	}
	return all
}

// Events that are not right, as many of each node as it counts, so that nothing else is wrong.
func wrongEventsOfWorlds(t *testing.T) []world {
	var all []world
	lists := slices.Concat(wrongOrdersOfDeeds(), wrongContextsOfDeeds(), wrongPartsOfDeeds(), tooManyDeeds())
	for _, list := range lists {
		counts := vv{countTold(list, 0), countTold(list, 1), countTold(list, 2)}
		if max(counts[0], counts[1], counts[2]) > impl.MaxRecords {
			continue
		}
		p := plainClusterOf(t, [impl.Nodes][]string{fillers(0, counts[0], "a"), fillers(1, counts[1], "b"), fillers(2, counts[2], "e")})
		w := newPlainWorld(t)
		w.plainCluster, w.deeds = p, list
		all = append(all, w.world())
	}
	return all
}

// Counts that are not how many events of the node there are, and a group that has acknowledged others.
func wrongCountsOfWorlds(t *testing.T) []world {
	var all []world
	for _, w := range []plainWorld{newPlainWorld(t), plainWorldOf(t, somePlain(t)), eventful(t, 99)} {
		counts := w.counts()
		for id := range impl.Nodes {
			more := deed{Dot: dot{Node: id, N: counts[id] + 1}, Key: "a", Value: 5}
			late := counts
			late[id]++
			all = append(all, changedWorlds(w,
				func(w *world) { w.Events = append(w.Events, more) },
				func(w *world) { w.Events = slices.Insert(w.Events, 0, deed{Dot: dot{Node: id, N: 1}, Key: "a"}) },
				func(w *world) {
					w.Events = append(w.Events, more, deed{Dot: dot{Node: id, N: more.Dot.N + 1}, Key: "b", Dead: true})
				},
				func(w *world) { w.Group.Acked = late },
				func(w *world) { w.Group.Acked, w.Group.Stream = late, []dot{more.Dot} },
				func(w *world) { w.Group.Acked[id] = impl.MaxDot },
				func(w *world) { w.Group.Acked = vv{impl.MaxDot, impl.MaxDot, impl.MaxDot} })...)
			if counts[id] == 0 {
				continue
			}
			all = append(all, changedWorlds(w,
				func(w *world) {
					w.Events = slices.DeleteFunc(w.Events, func(e deed) bool { return e.Dot == dot{Node: id, N: counts[id]} })
				},
				func(w *world) { w.Events = slices.DeleteFunc(w.Events, func(e deed) bool { return e.Dot.Node == id }) },
				func(w *world) { w.Events = nil },
				func(w *world) { w.Cluster.Nodes[id] = node{Id: id} })...)
		}
		// as many in all, but not of each node
		all = append(all, changedWorlds(w, func(w *world) {
			for i := range w.Events {
				w.Events[i] = deed{Dot: dot{Node: 2, N: i + 1}, Key: "e"}
			}
			if len(w.Events) == 0 {
				w.Events = deedsIn("c1 e 5 0.0.0")
			}
		})...)
	}
	return append(all, world{}, world{Cluster: impl.NewCluster()}, world{Group: impl.NewGroup()})
}

func wrongWorlds(t *testing.T) []world {
	t.Helper()
	return slices.Concat(wrongPartsOfWorlds(t), wrongEventsOfWorlds(t), wrongCountsOfWorlds(t))
}

// Of a world that is not right nothing is answered but ErrBad, whatever the act is; nor is it the same as any.
func TestWrongWorlds(t *testing.T) {
	steps := append(stepsIn("put 0 a 5", "put 2 a 5 blind", "delete 0 a", "deliver 0", "drop 99", "twice 0", "crash 0", "back 0", "torn 0 a 5 1 0", "exchange 0 0",
		"handoff 1", "poll 0 9", "takeover 1", "cut 0 1", "resync 0", "put 0 - 5"), step{}, step{Kind: 15}, step{Kind: 1, Node: 3})
	right := plainWorldOf(t, somePlain(t)).world()
	for i, w := range wrongWorlds(t) {
		if impl.WorldOK(w) {
			t.Fatal("WorldOK of wrong world", i, short(w))
		}
		was := copyOfWorld(w)
		for k, s := range steps {
			if i%7 != k%7 { // each world is asked some of them
				continue
			}
			if got, code := impl.WorldDo(w, s); !isZeroWorld(got) || code != impl.ErrBad {
				t.Fatal("WorldDo of wrong world", i, s, short(got), code)
			}
		}
		if impl.SameWorld(w, w) || impl.SameWorld(w, was) || impl.SameWorld(w, right) || impl.SameWorld(right, w) {
			t.Fatal("SameWorld of wrong world", i)
		}
		if !alikeWorlds(w, was) {
			t.Fatal("wrong world is changed", i, short(w))
		}
	}
}

var kindsAround = []int{math.MinInt, -1 << 32, -15, -1, 0, 1, 2, 3, 4, 5, 6, 7, 8, 9, 10, 11, 12, 13, 14, 15, 16, 28, 100, 1 << 32, 1<<32 + 1, math.MaxInt}

// Acts with one field that is at its bound, or beyond it, and all others right.
func stepsAround() []step {
	var all []step
	for kind := 1; kind <= 14; kind++ {
		right := step{Kind: kind, Node: 1, N: 2, Key: "a", Value: 3, Keep: 1, Blind: kind%2 == 0}
		vary := func(change func(s *step)) {
			s := right
			change(&s)
			all = append(all, s)
		}
		for _, n := range append([]int{0, 1, 2}, noNodes...) {
			vary(func(s *step) { s.Node = n })
		}
		for _, n := range []int{math.MinInt, -1 << 32, -100, -1, 0, 1, 50, 99, 100, 101, 1 << 32, 1<<32 + 1, math.MaxInt} {
			vary(func(s *step) { s.N = n })
			vary(func(s *step) { s.Keep = n })
			vary(func(s *step) { s.N, s.Keep = n, n })
		}
		for _, value := range []int{math.MinInt, -1 << 32, -1, 0, 1, 998, 999, 1000, 1 << 32, 1<<32 + 1, math.MaxInt} {
			vary(func(s *step) { s.Value = value })
			vary(func(s *step) { s.Value, s.Blind = value, !s.Blind })
		}
		for _, key := range slices.Concat(rightKeys, wrongKeys, longKeys) {
			vary(func(s *step) { s.Key = key })
		}
	}
	for _, kind := range kindsAround {
		all = append(all, step{Kind: kind}, step{Kind: kind, Key: "a", N: 100, Keep: 100, Value: 999, Node: 2, Blind: true})
	}
	return all
}

func wrongSteps() []step {
	return slices.DeleteFunc(stepsAround(), stepRight)
}

func TestActsRightAndWrong(t *testing.T) {
	right, not := 0, 0
	for _, s := range stepsAround() {
		if got := impl.ActOK(s); got != stepRight(s) {
			t.Error("ActOK", short(s), got)
		}
		if stepRight(s) {
			right++
		} else {
			not++
		}
	}
	if right < 200 || not < 500 { // else it would show little
		t.Error(right, not)
	}
}

// By hand: right and wrong acts.
func TestActsByHand(t *testing.T) {
	for i, s := range []step{
		{Kind: 1}, {Kind: 14}, {Kind: 1, Node: 2}, {Kind: 3, N: 100}, {Kind: 3, Keep: 100}, {Kind: 1, Key: "zzzzzz", Value: 999, Blind: true},
		{Kind: 7, Node: 2, N: 100, Key: "a", Value: 999, Keep: 100, Blind: true}, {Kind: 2, Key: "a", Value: 5}, {Kind: 8, Key: ""},
	} {
		if !impl.ActOK(s) {
			t.Error("ActOK of right act", i, s)
		}
	}
	for i, s := range []step{
		{}, {Kind: 15}, {Kind: -1}, {Kind: 1, Node: 3}, {Kind: 1, Node: -1}, {Kind: 3, N: 101}, {Kind: 3, N: -1}, {Kind: 6, Keep: 101}, {Kind: 6, Keep: -1},
		{Kind: 1, Key: "A"}, {Kind: 1, Key: "sevenaa"}, {Kind: 1, Key: " "}, {Kind: 1, Value: 1000}, {Kind: 1, Value: -1}, {Kind: 12, Value: 1000},
		{Kind: math.MaxInt, Node: math.MinInt, N: math.MaxInt, Value: math.MinInt, Keep: math.MaxInt}, {Kind: 0, Key: "a", Value: 5},
	} {
		if impl.ActOK(s) {
			t.Error("ActOK of wrong act", i, s)
		}
	}
}

// An act that is not right is ErrBad, whatever the world is, and whatever else would be told of it.
func TestWrongActs(t *testing.T) {
	worlds := []plainWorld{newPlainWorld(t), plainWorldOf(t, somePlain(t)), plainWorldOf(t, somePlain(t).ups()[0]), eventful(t, 100)}
	for i, s := range wrongSteps() {
		w := worlds[i%len(worlds)].world()
		if got, code := impl.WorldDo(w, s); !isZeroWorld(got) || code != impl.ErrBad {
			t.Fatal("WorldDo", short(s), short(got), code)
		}
		for _, steps := range [][]step{{s}, {stepIn("put 0 a 5"), s}, {s, stepIn("put 0 a 5")}} {
			if got, codes, code := impl.WorldRun(steps); !isZeroWorld(got) || len(codes) > 0 || code != impl.ErrBad {
				t.Fatal("WorldRun", short(steps), short(got), codes, code)
			}
		}
		if !alikeWorlds(w, worlds[i%len(worlds)].world()) {
			t.Fatal("world is changed", short(s))
		}
	}
}

// Each kind of act, at each node, with each of the fields that it asks for at its ends and within.
func stepsOfAllKinds() []step {
	var all []step
	for _, n := range []int{0, 1, 3, 4, 59, 60, 100} {
		all = append(all, step{Kind: impl.AcDeliver, N: n}, step{Kind: impl.AcDrop, N: n}, step{Kind: impl.AcTwice, N: n})
	}
	for id := range impl.Nodes {
		all = append(all, step{Kind: impl.AcBack, Node: id}, step{Kind: impl.AcHandoff, Node: id}, step{Kind: impl.AcTakeover, Node: id}, step{Kind: impl.AcResync, Node: id})
		for _, n := range []int{0, 1, 2, 99, 100} {
			all = append(all, step{Kind: impl.AcExchange, Node: id, N: n}, step{Kind: impl.AcPoll, Node: id, N: n}, step{Kind: impl.AcCut, Node: id, N: n},
				step{Kind: impl.AcCrash, Node: id, N: n, Keep: 100 - n})
		}
		for i, key := range []string{"", "a", "b", "e", otherKey, "new", "zzzzzz"} {
			for _, blind := range []bool{false, true} {
				all = append(all, step{Kind: impl.AcPut, Node: id, Key: key, Value: 999 * (i % 2), Blind: blind}, step{Kind: impl.AcDelete, Node: id, Key: key, Value: i, Blind: blind})
			}
			for _, n := range [][2]int{{0, 0}, {0, 9}, {0, 100}, {1, 0}, {100, 100}} {
				all = append(all, step{Kind: impl.AcTorn, Node: id, Key: key, Value: 7 * i, Keep: n[0], N: n[1]})
			}
		}
	}
	return all
}

func TestEachActOfSmallWorlds(t *testing.T) {
	codes := map[[2]int]int{}
	for _, w := range plainWorlds(t) {
		for _, s := range stepsOfAllKinds() {
			_, code := w.asTold(t, s)
			codes[[2]int{s.Kind, code}]++
		}
	}
	for _, met := range codesOfActs {
		for _, code := range met.codes {
			if codes[[2]int{met.kind, code}] == 0 { // else it would show little
				t.Error("no act", met.kind, "with code", code)
			}
		}
	}
	many := 0
	for _, met := range codesOfActs {
		many += len(met.codes)
	}
	if len(codes) != many {
		t.Error("codes that no act may have", codes)
	}
}

// All codes that acts of each kind can have. (Too many siblings there can't be: there would be too many events.)
var codesOfActs = []struct {
	kind  int
	codes []int
}{
	{impl.AcPut, []int{impl.OK, impl.ErrKey, impl.ErrMany, impl.ErrQuorum, impl.ErrDown, impl.ErrOwner, impl.ErrFull}},
	{impl.AcDelete, []int{impl.OK, impl.ErrKey, impl.ErrMany, impl.ErrQuorum, impl.ErrDown, impl.ErrOwner, impl.ErrFull}},
	{impl.AcDeliver, []int{impl.OK, impl.ErrNone, impl.ErrDown, impl.ErrFull, impl.ErrMany}},
	{impl.AcDrop, []int{impl.OK, impl.ErrNone}},
	{impl.AcTwice, []int{impl.OK, impl.ErrNone, impl.ErrFull}},
	{impl.AcCrash, []int{impl.OK, impl.ErrDown}},
	{impl.AcBack, []int{impl.OK, impl.ErrUp}},
	{impl.AcTorn, []int{impl.OK, impl.ErrKey, impl.ErrMany, impl.ErrDown, impl.ErrOwner, impl.ErrFull}},
	{impl.AcExchange, []int{impl.OK, impl.ErrDown}},
	{impl.AcHandoff, []int{impl.OK, impl.ErrDown}},
	{impl.AcPoll, []int{impl.OK, impl.ErrDown, impl.ErrCut, impl.ErrMany}},
	{impl.AcTakeover, []int{impl.OK, impl.ErrMany}},
	{impl.AcCut, []int{impl.OK, impl.ErrDown, impl.ErrRange, impl.ErrFull}},
	{impl.AcResync, []int{impl.OK, impl.ErrDown}},
}

// What an act does not ask for does not count, as long as the act is right.
func TestFieldsThatActsDoNotAskFor(t *testing.T) {
	spoils := map[string]func(s *step){
		"node":  func(s *step) { s.Node = (s.Node + 1) % 3 },
		"n":     func(s *step) { s.N = 100 - s.N },
		"key":   func(s *step) { s.Key = "zzzzzz" },
		"value": func(s *step) { s.Value = 999 - s.Value },
		"keep":  func(s *step) { s.Keep = 100 - s.Keep },
		"blind": func(s *step) { s.Blind = !s.Blind },
	}
	worlds := []plainWorld{plainWorldOf(t, somePlain(t)), plainWorldOf(t, somePlain(t).ups()[3]).groupsAndRows()[1], eventful(t, 100)}
	for word, told := range stepWords {
		asked := strings.Fields(told.fields)
		switch word {
		case "put", "delete":
			asked = append(asked, "blind")
		case "crash": // nothing of a cluster is unsure, so that nothing is kept or torn
			asked = []string{"node"}
		}
		for field, spoil := range spoils {
			if slices.Contains(asked, field) {
				continue
			}
			for i, w := range worlds {
				s := step{Kind: told.kind, Node: i % 2, Key: "a", Value: 5, N: i, Keep: i % 2}
				other := s
				spoil(&other)
				one, oneCode := impl.WorldDo(w.world(), s)
				two, twoCode := impl.WorldDo(w.world(), other)
				if !alikeWorlds(one, two) || oneCode != twoCode {
					t.Error(word, "asks for", field, s, other, short(one), oneCode, short(two), twoCode)
				}
			}
		}
	}
}

func deedTexts(list []deed) string {
	var texts []string
	for _, e := range list {
		text, _ := deedTold(e)
		texts = append(texts, text)
	}
	return strings.Join(texts, ", ")
}

// Key a belongs to nodes 0 and 1 in this order, b to 1 and 2, e to 2 and 0.
func TestContextsByHand(t *testing.T) {
	for _, c := range []struct{ acts, want string }{
		{"put 0 a 5", "a1 a 5 0.0.0"},
		{"put 0 a 5; put 0 a 6", "a1 a 5 0.0.0, a2 a 6 1.0.0"},
		{"put 0 a 5; put 0 a 6 blind", "a1 a 5 0.0.0, a2 a 6 0.0.0"},
		{"put 0 a 5; put 1 a 6", "a1 a 5 0.0.0, b1 a 6 1.0.0"},                // what the first owner has, wherever it is put
		{"put 1 a 5; put 0 a 6", "b1 a 5 0.0.0, a1 a 6 0.0.0"},                // what the second owner has it does not know
		{"put 1 a 5; put 1 a 6", "b1 a 5 0.0.0, b2 a 6 0.0.0"},                // not even at the second owner itself
		{"put 1 a 5; deliver 0; put 1 a 6", "b1 a 5 0.0.0, b2 a 6 0.1.0"},     // now the first one has it
		{"put 1 a 5; crash 0; put 1 a 6", "b1 a 5 0.0.0, b2 a 6 0.1.0"},       // now the second one is the first that is up
		{"put 1 a 5; crash 0; put 1 a 6 blind", "b1 a 5 0.0.0, b2 a 6 0.0.0"}, // whoever is up
		{"put 0 a 5; put 0 e 6", "a1 a 5 0.0.0, a2 e 6 0.0.0"},                // of another key
		{"put 2 e 5; put 0 e 6; put 0 e 7", "c1 e 5 0.0.0, a1 e 6 0.0.1, a2 e 7 0.0.1"},
		{"delete 0 a", "a1 a ! 0.0.0"},
		{"delete 0 a blind", "a1 a ! 0.0.0"},
		{"put 0 a 5; delete 1 a", "a1 a 5 0.0.0, b1 a ! 1.0.0"},
		{"put 0 a 5; delete 1 a blind", "a1 a 5 0.0.0, b1 a ! 0.0.0"},
		{"delete 0 a; put 0 a 0", "a1 a ! 0.0.0, a2 a 0 1.0.0"},
		// what is torn knows what its node has, not what the first owner has
		{"torn 0 a 5 1 0", "a1 a 5 0.0.0"},
		{"put 0 a 5; torn 1 a 6 1 0", "a1 a 5 0.0.0, b1 a 6 0.0.0"},
		{"put 0 a 5; deliver 0; torn 1 a 6 1 0", "a1 a 5 0.0.0, b1 a 6 1.0.0"},
		{"put 1 a 5; torn 1 a 6 1 0", "b1 a 5 0.0.0, b2 a 6 0.1.0"},
		{"put 1 a 5; torn 1 a 6 0 100", "b1 a 5 0.0.0, b2 a 6 0.1.0"},
		{"put 1 a 5; torn 1 a 6 0 0; back 1; put 1 a 7", "b1 a 5 0.0.0, b2 a 7 0.0.0"}, // its number is free again
	} {
		w := newPlainWorld(t).doing(t, strings.Split(c.acts, ";")...)
		got, codes, code := impl.WorldRun(stepsIn(strings.Split(c.acts, ";")...))
		if deedTexts(got.Events) != c.want || code != impl.OK || slices.Max(codes) != impl.OK {
			t.Error(c.acts, deedTexts(got.Events), "not", c.want, codes, code)
		}
		if deedTexts(w.deeds) != c.want {
			t.Error("one by one", c.acts, deedTexts(w.deeds), "not", c.want)
		}
	}
}

// Acts with a code, told by hand: what was done ahead of them, the act, its code. The world is as it was, but for messages
// that are gone.
func TestCodesOfActsByHand(t *testing.T) {
	for _, c := range []struct {
		acts, last string
		code       int
	}{
		{"", "put 0 - 5", impl.ErrKey}, {"", "delete 2 -", impl.ErrKey}, {"", "torn 0 - 5 0 0", impl.ErrKey}, {"", "put 0 - 5 blind", impl.ErrKey},
		{"crash 0; crash 1", "put 0 - 5", impl.ErrKey}, {"crash 0", "torn 0 - 5 0 0", impl.ErrKey},
		// nobody to read from is told ahead of where it is put
		{"crash 0; crash 1", "put 0 a 5", impl.ErrQuorum}, {"crash 0; crash 1", "put 2 a 5", impl.ErrQuorum}, {"crash 0; crash 1", "delete 1 a", impl.ErrQuorum},
		{"crash 0; crash 1", "put 0 a 5 blind", impl.ErrDown}, {"crash 0; crash 1", "put 2 a 5 blind", impl.ErrOwner}, {"crash 0; crash 1", "delete 1 a blind", impl.ErrDown},
		{"crash 0", "put 0 a 5", impl.ErrDown}, {"crash 1", "put 1 a 5", impl.ErrDown}, {"crash 0", "put 2 a 5", impl.ErrOwner},
		{"crash 2", "put 2 a 5", impl.ErrDown}, {"crash 2", "put 2 a 5 blind", impl.ErrDown},
		{"", "put 2 a 5", impl.ErrOwner}, {"", "delete 2 a", impl.ErrOwner}, {"", "put 0 b 5", impl.ErrOwner}, {"", "put 1 e 5 blind", impl.ErrOwner},
		{"", "torn 2 a 5 1 0", impl.ErrOwner}, {"crash 2", "torn 2 a 5 1 0", impl.ErrDown}, {"crash 0", "torn 0 a 5 1 0", impl.ErrDown},
		{"", "deliver 0", impl.ErrNone}, {"", "drop 0", impl.ErrNone}, {"", "twice 0", impl.ErrNone}, {"", "deliver 100", impl.ErrNone},
		{"put 0 a 5", "deliver 1", impl.ErrNone}, {"put 0 a 5", "drop 1", impl.ErrNone}, {"put 0 a 5", "twice 1", impl.ErrNone}, {"put 0 a 5", "twice 60", impl.ErrNone},
		{"put 0 a 5; crash 1", "deliver 1", impl.ErrNone},
		{"crash 0", "crash 0", impl.ErrDown}, {"", "back 0", impl.ErrUp}, {"crash 0; back 0", "back 0", impl.ErrUp},
		{"crash 1", "exchange 0 0", impl.ErrDown}, {"crash 1", "exchange 1 0", impl.ErrDown}, {"crash 2", "exchange 0 1", impl.ErrDown}, {"crash 1", "handoff 1", impl.ErrDown},
		{"put 0 a 5; crash 0", "poll 0 1", impl.ErrDown}, {"crash 0", "poll 0 0", impl.ErrDown}, {"put 0 a 5; crash 0", "cut 0 1", impl.ErrDown},
		{"crash 0", "cut 0 100", impl.ErrDown}, {"crash 0", "resync 0", impl.ErrDown},
		{"put 0 a 5; cut 0 1; crash 0", "poll 0 9", impl.ErrDown}, {"put 0 a 5; cut 0 1; crash 0", "cut 0 1", impl.ErrDown},
		{"", "cut 0 0", impl.ErrRange}, {"", "cut 0 1", impl.ErrRange}, {"put 0 a 5", "cut 0 2", impl.ErrRange}, {"put 0 a 5; cut 0 1", "cut 0 1", impl.ErrRange},
		{"put 0 a 5; put 0 a 6; cut 0 2", "cut 0 1", impl.ErrRange}, {"put 0 a 5", "cut 1 1", impl.ErrRange},
		{"put 0 a 5; cut 0 1", "poll 0 9", impl.ErrCut}, {"put 0 a 5; cut 0 1", "poll 0 0", impl.ErrCut},
		{"put 0 a 5; put 0 a 6; poll 0 1; cut 0 2", "poll 0 1", impl.ErrCut}, {"put 0 a 5; cut 0 1; takeover 2", "poll 0 9", impl.ErrCut},
	} {
		w := newPlainWorld(t)
		if c.acts != "" {
			w = w.doing(t, strings.Split(c.acts, ";")...)
		}
		got, code := impl.WorldDo(w.world(), stepIn(c.last))
		if code != c.code || !alikeWorlds(got, w.world()) || !impl.SameWorld(got, w.world()) {
			t.Error(c.acts, c.last, code, "not", c.code, short(got))
		}
		w.refusing(t, c.last, c.code)
	}
}

// With as many events as there may be nothing is put, whatever else would be told of it; all other acts go on.
func TestMaxEvents(t *testing.T) {
	w := eventful(t, impl.MaxEvents-1)
	for _, last := range []string{"put 0 a 5", "put 1 a 5 blind", "delete 2 e", "delete 0 a blind", "torn 0 a 5 1 0", "torn 1 b 5 0 100"} {
		full := w.doing(t, last)
		if len(full.deeds) != impl.MaxEvents {
			t.Fatal(last, len(full.deeds))
		}
		for _, text := range []string{"put 1 b 5", "put 1 b 5 blind", "put 0 old 5", "delete 2 e", "torn 1 b 5 1 0", "torn 1 b 5 0 0", "put 1 zzzzzz 5", "put 0 b 5 blind"} {
			full.refusing(t, text, impl.ErrMany)
			down := full
			down.up = [impl.Nodes]bool{}
			down.refusing(t, text, impl.ErrMany)
		}
		for _, text := range []string{"put 1 - 5", "delete 1 -", "torn 1 - 5 0 0"} {
			full.refusing(t, text, impl.ErrKey)
		}
		full.up = [impl.Nodes]bool{true, true, true}
		full.doing(t, "poll 2 100", "poll 2 100", "crash 2", "back 2", "exchange 2 0", "exchange 2 1", "takeover 1", "cut 2 5", "resync 2")
	}
	// one that is torn and not kept leaves its room
	w = w.doing(t, "torn 0 a 5 0 9", "back 0", "put 0 a 6")
	w.refusing(t, "put 0 a 7", impl.ErrMany)
}

// Nodes without room by hand.
func TestActsWithoutRoom(t *testing.T) {
	crowds := crowdedWorlds(t)
	tight, lines, oneKey, keys := crowds[0], crowds[1], crowds[2], crowds[3]
	for _, text := range []string{"put 0 a 5", "put 0 old 5", "delete 0 e blind", "torn 0 a 5 1 0", "cut 0 1", "cut 0 2", "deliver 0", "deliver 1"} {
		lines.refusing(t, text, impl.ErrFull)
		if text != "deliver 0" && text != "deliver 1" {
			full := tight.doing(t, text)
			full.up[0] = true
			full.refusing(t, "put 0 a 5", impl.ErrFull)
		}
	}
	lines.refusing(t, "cut 0 0", impl.ErrRange)
	lines.refusing(t, "cut 0 3", impl.ErrRange)
	lines.doing(t, "poll 0 9", "deliver 2", "takeover 2", "crash 0", "back 0", "put 1 a 5")
	for _, text := range []string{"put 0 old 5", "put 0 " + otherKey + " 5 blind", "delete 0 old", "torn 0 old 5 0 0", "deliver 0"} {
		keys.refusing(t, text, impl.ErrMany)
		oneKey.doing(t, text)
	}
	keys.doing(t, "put 0 a 5", "delete 0 e", "deliver 1", "cut 0 2")
	if got, code := impl.WorldDo(lines.world(), stepIn("deliver 0")); code != impl.ErrFull || !slices.EqualFunc(got.Cluster.Net, lines.net[1:], alikeMsg) {
		t.Error("Deliver", code, got.Cluster.Net)
	}
}

func alikeMsg(a, b msg) bool { return alikeMsgs([]msg{a}, []msg{b}) }

// Messages that are none, that come twice, that are dropped, and that are gone since their node is down.
func TestMessagesByHand(t *testing.T) {
	w := newPlainWorld(t).doing(t, "put 0 a 5", "put 0 e 6", "put 1 b 7")
	first, second, third := sent(0, 1, "a", "1.0.0|a1=5"), sent(0, 2, "e", "2.0.0|a2=6"), sent(1, 2, "b", "0.1.0|b1=7")
	for _, c := range []struct {
		acts string
		net  []msg
	}{
		{"drop 0", []msg{second, third}}, {"drop 2", []msg{first, second}}, {"twice 0", []msg{first, second, third, first}}, {"twice 2; drop 2", []msg{first, second, third}},
		{"deliver 1", []msg{first, third}}, {"twice 1; deliver 1; deliver 2", []msg{first, third}}, {"deliver 0; deliver 0; deliver 0", nil},
		{"twice 0; twice 3; deliver 3", []msg{first, second, third, first}}, {"crash 1; back 1", []msg{first, second, third}},
	} {
		if got := w.doing(t, strings.Split(c.acts, ";")...); !alikeMsgs(got.net, c.net) {
			t.Error(c.acts, got.net, "not", c.net)
		}
	}
	// a node that is down: its message is gone for good
	gone := w.doing(t, "crash 1").refusing(t, "deliver 0", impl.ErrDown)
	if !alikeMsgs(gone.net, []msg{second, third}) {
		t.Error("gone", gone.net)
	}
	keyHolds(t, gone.doing(t, "back 1").world().Cluster, "a", "1.0.0|a1=5", none, none)
}

// Each node with each other one, for N even and odd.
func TestExchangesByHand(t *testing.T) {
	w := newPlainWorld(t).doing(t, "put 0 a 1", "put 1 b 2", "put 2 e 3", "drop 0", "drop 0", "drop 0")
	for _, c := range []struct {
		node, n    int
		key        string // what became alike
		first, two int
	}{
		{0, 0, "a", 0, 1}, {0, 1, "e", 0, 2}, {1, 0, "b", 1, 2}, {1, 1, "a", 0, 1}, {2, 0, "e", 0, 2}, {2, 1, "b", 1, 2},
		{0, 2, "a", 0, 1}, {0, 99, "e", 0, 2}, {1, 100, "b", 1, 2}, {1, 77, "a", 0, 1}, {2, 50, "e", 0, 2}, {2, 3, "b", 1, 2},
	} {
		got, code := w.asTold(t, step{Kind: impl.AcExchange, Node: c.node, N: c.n})
		for _, key := range []string{"a", "b", "e"} {
			owners := ownersTold(key)
			same := alike(got.nodes[owners[0]].objs[key], got.nodes[owners[1]].objs[key])
			if same != (key == c.key) || code != impl.OK {
				t.Error("exchange", c, key, same, code)
			}
		}
		// the third one has no part in it; without one of the two there is none
		for id := range impl.Nodes {
			down := w.doing(t, fmt.Sprint("crash ", id))
			want := impl.OK
			if id == c.first || id == c.two {
				want = impl.ErrDown
			}
			if _, code := down.asTold(t, step{Kind: impl.AcExchange, Node: c.node, N: c.n}); code != want {
				t.Error("exchange", c, "without", id, code)
			}
		}
	}
}

// Hints that reach a node that is up again.
func TestHandoffsByHand(t *testing.T) {
	w := newPlainWorld(t).doing(t, "crash 1", "put 0 a 5", "put 2 b 6", "put 0 a 7")
	if !alikeMsgs(w.hints, []msg{sent(2, 1, "a", "1.0.0|a1=5"), sent(0, 1, "b", "0.0.1|c1=6"), sent(2, 1, "a", "2.0.0|a2=7")}) || len(w.net) != 0 {
		t.Fatal("hints", w.hints, w.net)
	}
	w = w.doing(t, "handoff 2", "handoff 0") // its node is down: they stay
	if len(w.hints) != 3 {
		t.Error("hints", w.hints)
	}
	w = w.doing(t, "back 1", "handoff 2")
	keyHolds(t, w.world().Cluster, "a", "2.0.0|a2=7", "2.0.0|a2=7", none)
	keyHolds(t, w.world().Cluster, "b", none, none, "0.0.1|c1=6")
	w = w.doing(t, "handoff 1", "handoff 0")
	keyHolds(t, w.world().Cluster, "b", none, "0.0.1|c1=6", "0.0.1|c1=6")
	if len(w.hints) != 0 {
		t.Error("hints", w.hints)
	}
}

// groupIs asks what is acknowledged, in which order, and the rows.
func (w plainWorld) groupIs(t *testing.T, epoch, owner int, acked, stream string, rows ...string) {
	t.Helper()
	want := group{Epoch: epoch, Owner: owner, Acked: vvIn(acked), Stream: dotsIn(strings.Fields(stream)...)}
	if got := w.world(); !alikeGroups(got.Group, want) || !alikeRows(got.Rows, rowsIn(rows...)) {
		t.Error(got.Group, got.Rows, "not", want, rows)
	}
}

// Polls of none, of one and of many entries, of each node, by several owners, and behind cuts.
func TestPollsByHand(t *testing.T) {
	w := newPlainWorld(t).doing(t, "put 0 a 5", "put 0 e 6", "put 1 b 7", "put 0 a 9 blind", "put 2 e 8", "delete 0 e blind")
	w = w.doing(t, "poll 0 0", "poll 1 0")
	w.groupIs(t, 1, 0, "0.0.0", "")
	w = w.doing(t, "poll 0 1") // the rows are what the node has of the key, also by later events
	w.groupIs(t, 1, 0, "1.0.0", "a1", "1 a 5 9")
	w = w.doing(t, "poll 1 9")
	w.groupIs(t, 1, 0, "1.1.0", "a1 b1", "1 a 5 9") // of other nodes no rows
	w = w.doing(t, "takeover 2")
	w.groupIs(t, 2, 2, "1.1.0", "a1 b1", "1 a 5 9")
	w = w.doing(t, "poll 0 2")
	w.groupIs(t, 2, 2, "3.1.0", "a1 b1 a2 a3", "1 a 5 9", "2 e 6")
	w = w.doing(t, "takeover 2", "poll 2 100", "poll 2 100", "poll 1 100", "poll 0 100")
	w.groupIs(t, 3, 2, "4.1.1", "a1 b1 a2 a3 c1 a4", "1 a 5 9", "2 e 6") // the deletion knew nothing
	w = w.doing(t, "delete 0 e", "poll 0 100")
	w.groupIs(t, 3, 2, "5.1.1", "a1 b1 a2 a3 c1 a4 a5", "1 a 5 9", "2 e 6") // it knew what the first owner has
	w = w.doing(t, "exchange 0 1", "delete 2 e", "exchange 2 0", "poll 0 100")
	w.groupIs(t, 3, 2, "5.1.1", "a1 b1 a2 a3 c1 a4 a5", "1 a 5 9", "2 e 6") // what is joined is no event of the feed
	w = w.doing(t, "resync 0")
	w.groupIs(t, 3, 2, "5.1.1", "a1 b1 a2 a3 c1 a4 a5", "1 a 5 9")
}

// Cuts at, below and beyond what is there, resyncs of each node, and what becomes of the rows.
func TestCutsAndResyncsByHand(t *testing.T) {
	w := newPlainWorld(t).doing(t, "put 0 a 5", "put 0 e 6", "put 0 a 7", "put 1 b 8", "put 1 b 9", "put 2 e 10")
	w = w.doing(t, "poll 0 1", "cut 0 1", "poll 0 1") // what is cut off was acknowledged
	w.groupIs(t, 1, 0, "2.0.0", "a1 a2", "2 e 6", "3 a 7")
	w = w.doing(t, "cut 0 3").refusing(t, "poll 0 9", impl.ErrCut)
	w = w.doing(t, "takeover 1", "resync 1", "resync 2") // of other nodes, and nothing was cut off of them
	w.groupIs(t, 2, 1, "2.0.0", "a1 a2", "2 e 6", "3 a 7")
	w.refusing(t, "poll 0 9", impl.ErrCut)
	w = w.doing(t, "put 0 e 11 blind", "resync 0") // the view is what the node has, also by what is not acknowledged
	w.groupIs(t, 2, 1, "3.0.0", "a1 a2", "2 e 6", "3 a 7", "3 e 11")
	w = w.doing(t, "poll 0 9")
	w.groupIs(t, 2, 1, "4.0.0", "a1 a2 a4", "2 e 6", "3 a 7", "3 e 11")
	w = w.doing(t, "cut 1 1").refusing(t, "poll 1 9", impl.ErrCut)
	w = w.doing(t, "resync 1", "poll 1 9", "poll 2 9")
	w.groupIs(t, 2, 1, "4.2.1", "a1 a2 a4 b2 c1", "2 e 6", "3 a 7", "3 e 11")
	w = w.doing(t, "cut 0 4", "cut 1 2", "cut 2 1", "resync 0", "resync 1", "resync 2", "poll 0 9", "poll 1 9", "poll 2 9")
	w.groupIs(t, 2, 1, "4.2.1", "a1 a2 a4 b2 c1", "2 e 6", "3 a 7", "3 e 11")
	if line := w.world().Cluster.Nodes[2].Disk.Sure; line[len(line)-1] != sealTold("cut 1") {
		t.Error("the cut is not sure", line)
	}
	stale := w.withRows(rowsIn("0 z 0", "1 a 1"))
	stale.doing(t, "resync 1").groupIs(t, 2, 1, "4.2.1", "a1 a2 a4 b2 c1", "0 z 0", "1 a 1")
	stale.doing(t, "resync 0").groupIs(t, 2, 1, "4.2.1", "a1 a2 a4 b2 c1", "2 e 6", "3 a 7", "3 e 11") // even if nothing was cut off
	stale.doing(t, "put 0 a 3", "poll 0 1").groupIs(t, 2, 1, "5.2.1", "a1 a2 a4 b2 c1 a5", "0 z 0", "3 a 3")
}

// Without room for rows a poll comes as far as the entry that has none: it is acknowledged, its rows are not there.
func TestAPollWithoutRoomForRows(t *testing.T) {
	w := newPlainWorld(t).doing(t, "put 0 aac 3", "put 0 a 4", "put 0 aac 7 blind", "put 1 b 7")
	full := w.withRows(rowsOfPart(3, mostRows))
	after := full.refusing(t, "poll 0 9", impl.ErrMany)
	want := rowsOfPart(3, mostRows)
	want[2] = row{Part: 3, Key: "aac", Values: []int{3, 7}} // it stands in the place of another row
	if got := after.world(); !alikeRows(got.Rows, want) || !alikeGroups(got.Group, group{Epoch: 1, Acked: vv{2}, Stream: dotsIn("a1", "a2")}) {
		t.Error("rows", short(got.Rows), got.Group)
	}
	after.doing(t, "poll 0 9", "poll 1 9")
	full.doing(t, "poll 0 1", "poll 1 9")
	w.withRows(rowsOfPart(3, mostRows-1)).doing(t, "poll 0 9")
	full.doing(t, "resync 0").groupIs(t, 1, 0, "0.0.0", "", "0 a 4", "3 aac 3 7")
}

// Takeovers by each node, up or down, up to the last epoch.
func TestTakeoversOfWorlds(t *testing.T) {
	for id := range impl.Nodes {
		text := fmt.Sprint("takeover ", id)
		w := newPlainWorld(t).doing(t, "put 0 a 5", "poll 0 1")
		w.doing(t, text).groupIs(t, 2, id, "1.0.0", "a1", "1 a 5")
		w.doing(t, fmt.Sprint("crash ", id), text, text).groupIs(t, 3, id, "1.0.0", "a1", "1 a 5")
		w.group.Epoch = newestEpoch - 1
		w = w.doing(t, text)
		w.groupIs(t, newestEpoch, id, "1.0.0", "a1", "1 a 5")
		for other := range impl.Nodes {
			w.refusing(t, fmt.Sprint("takeover ", other), impl.ErrMany)
		}
	}
}

// A put whose line is left byte by byte: only the whole one is an event.
func TestTornPutsOfWorlds(t *testing.T) {
	w := newPlainWorld(t).doing(t, "put 0 a 5", "put 1 a 6", "deliver 1", "poll 0 9")
	line := sealTold("put a 2.1.0|a2=7")
	for torn := range 101 {
		for _, keep := range []int{0, 1, 2, 100} {
			after, code := w.asTold(t, step{Kind: impl.AcTorn, Node: 0, Key: "a", Value: 7, Keep: keep, N: torn})
			whole := keep > 0 || torn >= len(line)
			if code != impl.OK || after.up[0] || len(after.net) != len(w.net) {
				t.Fatal("torn", keep, torn, code)
			}
			want := "a1 a 5 0.0.0, b1 a 6 1.0.0"
			if whole {
				want += ", a2 a 7 1.1.0"
			}
			if got := deedTexts(after.world().Events); got != want {
				t.Fatal("torn", keep, torn, got, "not", want)
			}
			back := after.doing(t, "back 0", "poll 0 9", "put 0 a 8")
			if whole != slices.Contains(back.group.Stream, dot{Node: 0, N: 2}) {
				t.Fatal("torn", keep, torn, back.group)
			}
		}
	}
}
