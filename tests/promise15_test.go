package tests

import (
	"fmt"
	"slices"
	"strings"
	"testing"

	"loop.example/g00535/impl"
)

// Promise 15: acts are done one by one, and a world stays right.

// A run of acts on one world, beside the plain world of which asTold holds each answer.
type worldRun struct {
	history
	plainWorld
	steps []step
	codes []int
}

func newWorldRun(t *testing.T, seed uint32) *worldRun {
	t.Helper()
	return &worldRun{history: history{state: seed}, plainWorld: newPlainWorld(t)}
}

// drawStep has kinds in such shares that nodes are up more often than down, and feeds are cut now and then. Its fields are
// around what is there.
func (r *worldRun) drawStep() step {
	kinds := []int{1, 1, 1, 1, 1, 1, 2, 2, 3, 3, 3, 3, 4, 5, 6, 7, 7, 7, 8, 9, 9, 9, 10, 10, 11, 11, 11, 11, 11, 12, 13, 14, 14}
	s := step{Kind: kinds[r.draw(len(kinds))], Node: r.draw(3), Key: clusterKeys[r.draw(len(clusterKeys))], Value: r.draw(1000), Keep: r.draw(3), Blind: r.draw(3) == 0}
	switch s.Kind {
	case impl.AcDeliver, impl.AcDrop, impl.AcTwice:
		s.N = r.draw(len(r.net) + 1 + r.draw(2))
	case impl.AcTorn, impl.AcCrash:
		s.N = r.draw(101)
	case impl.AcCut:
		s.N = r.nodes[s.Node].cut + r.draw(4)
	default:
		s.N = r.draw(6)
	}
	if r.draw(40) == 0 {
		s.Key = ""
	}
	return s
}

func (r *worldRun) step(t *testing.T) {
	t.Helper()
	s := r.drawStep()
	next, code := r.asTold(t, s)
	r.plainWorld = next
	r.steps, r.codes = append(r.steps, s), append(r.codes, code)
}

// worldsOfRuns has runs of so many acts each.
func worldsOfRuns(t *testing.T, runs, steps int) []*worldRun {
	t.Helper()
	var all []*worldRun
	for seed := range uint32(runs) {
		r := newWorldRun(t, seed)
		for range steps {
			r.step(t)
		}
		all = append(all, r)
	}
	return all
}

// Each act, and all acts of a run at once, with each one's code.
func TestRunsOfWorldsAreAsTold(t *testing.T) {
	met := map[[2]int]int{}
	for _, r := range worldsOfRuns(t, 200, impl.MaxActs) {
		got, codes, code := impl.WorldRun(r.steps)
		if !alikeWorlds(got, r.world()) || !slices.Equal(codes, r.codes) || code != impl.OK || !impl.SameWorld(got, r.world()) {
			t.Fatal("WorldRun", r.steps, short(got), codes, code, "not", short(r.world()), r.codes)
		}
		for i, s := range r.steps {
			met[[2]int{s.Kind, r.codes[i]}]++
		}
	}
	for _, each := range codesOfActs {
		if met[[2]int{each.kind, impl.OK}] < 50 { // else the runs would show little
			t.Error("acts of kind", each.kind, "that were done:", met[[2]int{each.kind, impl.OK}])
		}
	}
	for _, each := range [][2]int{{impl.AcPut, impl.ErrQuorum}, {impl.AcPut, impl.ErrDown}, {impl.AcDeliver, impl.ErrDown}, {impl.AcTorn, impl.ErrOwner},
		{impl.AcPoll, impl.ErrCut}, {impl.AcPoll, impl.ErrDown}, {impl.AcCut, impl.ErrRange}, {impl.AcExchange, impl.ErrDown}, {impl.AcBack, impl.ErrUp}} {
		if met[each] < 10 {
			t.Error("acts of kind", each[0], "with code", each[1], met[each])
		}
	}
}

// Each beginning of a run is what its acts make one by one.
func TestARunDoesWhatItsActsDo(t *testing.T) {
	for _, r := range worldsOfRuns(t, 12, impl.MaxActs) {
		w := impl.NewWorld()
		for many := range len(r.steps) + 1 {
			got, codes, code := impl.WorldRun(r.steps[:many])
			if !impl.SameWorld(got, w) || !alikeWorlds(got, w) || !slices.Equal(codes, r.codes[:many]) || code != impl.OK {
				t.Fatal("WorldRun", r.steps[:many], short(got), codes, code, "one by one", short(w))
			}
			if many == len(r.steps) {
				break
			}
			if w, code = impl.WorldDo(w, r.steps[many]); code != r.codes[many] || !impl.WorldOK(w) {
				t.Fatal("WorldDo", r.steps[many], code, short(w))
			}
		}
	}
}

// kept tells which parts of two worlds are alike: nodes, which of them are up, messages, hints, events, the group, and the
// rows.
func kept(a, b world) [7]bool {
	return [7]bool{
		slices.EqualFunc(a.Cluster.Nodes, b.Cluster.Nodes, alikeNodes), slices.Equal(a.Cluster.Up, b.Cluster.Up), alikeMsgs(a.Cluster.Net, b.Cluster.Net),
		alikeMsgs(a.Cluster.Hints, b.Cluster.Hints), slices.Equal(a.Events, b.Events), alikeGroups(a.Group, b.Group), alikeRows(a.Rows, b.Rows),
	}
}

// The parts that acts of each kind may change, in the order of kept.
var partsOfActs = map[int][7]bool{
	impl.AcPut: {0: true, 2: true, 3: true, 4: true}, impl.AcDelete: {0: true, 2: true, 3: true, 4: true}, impl.AcDeliver: {0: true, 2: true}, impl.AcDrop: {2: true},
	impl.AcTwice: {2: true}, impl.AcCrash: {1: true}, impl.AcBack: {1: true}, impl.AcTorn: {0: true, 1: true, 4: true}, impl.AcExchange: {0: true},
	impl.AcHandoff: {0: true, 3: true}, impl.AcPoll: {5: true, 6: true}, impl.AcTakeover: {5: true}, impl.AcCut: {0: true}, impl.AcResync: {5: true, 6: true},
}

// goesAhead says that the later world has all that the earlier one had: events and the stream go on behind what there was.
func goesAhead(later, earlier world) bool {
	if len(later.Events) < len(earlier.Events) || len(later.Group.Stream) < len(earlier.Group.Stream) || later.Group.Epoch < earlier.Group.Epoch {
		return false
	}
	for id, n := range earlier.Group.Acked {
		if later.Group.Acked[id] < n || later.Cluster.Nodes[id].Count < earlier.Cluster.Nodes[id].Count {
			return false
		}
	}
	return slices.Equal(later.Events[:len(earlier.Events)], earlier.Events) && slices.Equal(later.Group.Stream[:len(earlier.Group.Stream)], earlier.Group.Stream)
}

// An act changes no more than what it is for, and one with a code nothing but, of a message that is lost, the net.
func TestWhatActsLeaveAsItWas(t *testing.T) {
	for _, r := range worldsOfRuns(t, 60, impl.MaxActs) {
		w := impl.NewWorld()
		for _, s := range r.steps {
			next, code := impl.WorldDo(w, s)
			parts := partsOfActs[s.Kind]
			for i, same := range kept(next, w) {
				lost := s.Kind == impl.AcDeliver && code != impl.ErrNone && i == 2
				if !same && (!parts[i] || code != impl.OK && !lost) || same && lost {
					t.Fatal("WorldDo", s, code, "part", i, short(next), short(w))
				}
			}
			if code != impl.OK && s.Kind != impl.AcDeliver && !impl.SameWorld(next, w) {
				t.Fatal("WorldDo", s, code, "another world", short(next), short(w))
			}
			if !goesAhead(next, w) || !impl.WorldOK(next) {
				t.Fatal("WorldDo", s, code, short(next), "behind", short(w))
			}
			w = next
		}
	}
}

// The events are what the nodes counted, each with its key and its value, and no stream has one twice.
func TestEventsOfWorlds(t *testing.T) {
	for _, r := range worldsOfRuns(t, 60, impl.MaxActs) {
		w := r.world()
		for id, x := range w.Cluster.Nodes {
			if countTold(w.Events, id) != x.Count || w.Group.Acked[id] > x.Count {
				t.Fatal("node", id, x.Count, short(w.Events), w.Group)
			}
			for _, e := range feedTold(x, 0, impl.MaxRecords) {
				i := slices.IndexFunc(w.Events, func(each deed) bool { return each.Dot == e.Dot })
				if i < 0 || w.Events[i].Key != e.Key || hadAt(x, e.Key).Seen[id] < e.Dot.N {
					t.Fatal("event", e, short(w.Events))
				}
			}
		}
		if !impl.EventsOK(w.Events) || len(slices.CompactFunc(inDotOrder(w.Group.Stream), func(a, b dot) bool { return a == b })) != len(w.Group.Stream) {
			t.Fatal("events", short(w.Events), w.Group)
		}
	}
}

func inDotOrder(dots []dot) []dot {
	return slices.SortedFunc(slices.Values(dots), func(a, b dot) int {
		if a.Node != b.Node {
			return a.Node - b.Node
		}
		return a.N - b.N
	})
}

// do does acts all of which must be done, and answers what came of them.
func do(t *testing.T, w world, texts ...string) world {
	t.Helper()
	for _, text := range texts {
		next, code := impl.WorldDo(w, stepIn(text))
		if code != impl.OK || !impl.WorldOK(next) {
			t.Fatal("WorldDo", text, code, short(next))
		}
		w = next
	}
	return w
}

// Behind whatever acts, a crash of a node, whatever it keeps or tears, and its coming back change nothing: all that an act
// has done is sure.
func TestCrashesInTheMidstOfRuns(t *testing.T) {
	for seed := range uint32(12) {
		r := newWorldRun(t, seed+300)
		for range impl.MaxActs {
			r.step(t)
			w := r.world()
			for id := range impl.Nodes {
				if !w.Cluster.Up[id] {
					continue
				}
				for _, n := range [][2]int{{0, 0}, {0, 7}, {1, 0}, {100, 100}} {
					down, code := impl.WorldDo(w, step{Kind: impl.AcCrash, Node: id, Keep: n[0], N: n[1]})
					if code != impl.OK || down.Cluster.Up[id] || !impl.WorldOK(down) {
						t.Fatal("crash", id, n, code, short(down))
					}
					if back := do(t, down, fmt.Sprint("back ", id)); !impl.SameWorld(back, w) || !alikeWorlds(back, w) {
						t.Fatal("back", id, n, short(back), short(w))
					}
				}
			}
		}
	}
}

// A put that is torn in the midst of a run: behind it all is as it was, or there is one event more, whole, and nothing else.
// The node comes back and goes on.
func TestTornPutsInTheMidstOfRuns(t *testing.T) {
	whole, lost := 0, 0
	for _, r := range worldsOfRuns(t, 40, 40) {
		r.up = [impl.Nodes]bool{true, true, true}
		w := r.world()
		for _, key := range clusterKeys {
			owners := ownersTold(key)
			for _, id := range owners[:2] {
				knew := hadAt(w.Cluster.Nodes[id], key).Seen
				for _, n := range [][2]int{{0, 0}, {0, 1}, {0, 20}, {0, 99}, {0, 100}, {1, 0}, {1, 50}, {100, 0}} {
					down, code := impl.WorldDo(w, step{Kind: impl.AcTorn, Node: id, Key: key, Value: 5, Keep: n[0], N: n[1]})
					if code != impl.OK || down.Cluster.Up[id] || !impl.WorldOK(down) {
						t.Fatal("torn", id, key, n, code, short(down))
					}
					back := do(t, down, fmt.Sprint("back ", id))
					if len(down.Events) == len(w.Events) {
						lost++
						if n[0] > 0 || !impl.SameWorld(back, w) {
							t.Fatal("torn", id, key, n, short(back), short(w))
						}
					} else {
						whole++
						next := dot{Node: id, N: w.Cluster.Nodes[id].Count + 1}
						want := append(slices.Clone(w.Events), deed{Dot: next, Key: key, Value: 5, Ctx: knew})
						if !slices.Equal(down.Events, want) || kept(back, w) != [7]bool{1: true, 2: true, 3: true, 5: true, 6: true} {
							t.Fatal("torn", id, key, n, short(back), short(w))
						}
					}
					do(t, back, fmt.Sprintf("put %d %s 6", id, key), fmt.Sprintf("put %d %s 7 blind", id, key), fmt.Sprintf("resync %d", id), fmt.Sprintf("poll %d 100", id))
				}
			}
		}
	}
	if whole < 300 || lost < 300 { // else it would show little
		t.Error(whole, lost)
	}
}

// Crashes between the acts of a whole deed, by hand: with them, and without, all is the same in the end.
func TestCrashesInTheMidstByHand(t *testing.T) {
	for _, c := range []struct{ with, without string }{
		// of puts and their messages
		{"put 0 a 5; crash 0; deliver 0; back 0; put 0 a 6", "put 0 a 5; deliver 0; put 0 a 6"},
		{"put 0 a 5; crash 0; crash 1; back 1; deliver 0; back 0", "put 0 a 5; deliver 0"},
		{"put 0 a 5; twice 0; deliver 0; crash 1; back 1; deliver 0", "put 0 a 5; deliver 0"},
		{"torn 0 a 5 0 17; back 0; put 0 a 6", "put 0 a 6"},
		{"torn 0 a 5 0 0; back 0; torn 0 a 7 0 1; back 0; put 0 a 6; deliver 0", "put 0 a 6; deliver 0"},
		// what is torn and whole is sent to nobody
		{"torn 0 a 5 1 0; back 0; exchange 0 0", "put 0 a 5; drop 0; exchange 0 0"},
		{"torn 0 a 5 0 100; back 0; exchange 1 1", "put 0 a 5; drop 0; exchange 1 1"},
		{"put 0 a 4; torn 1 a 5 0 100; back 1; deliver 0", "put 0 a 4; put 1 a 5 blind; drop 1; deliver 0"},
		// of polls
		{"put 0 a 5; put 0 e 6; poll 0 1; crash 0; back 0; poll 0 1", "put 0 a 5; put 0 e 6; poll 0 2"},
		{"put 0 a 5; put 0 e 6; poll 0 1; crash 1; crash 2; crash 0; back 0; poll 0 1; back 1; back 2", "put 0 a 5; put 0 e 6; poll 0 9"},
		{"put 0 a 5; poll 0 1; torn 0 a 7 0 11; back 0; put 0 a 8; poll 0 1", "put 0 a 5; poll 0 1; put 0 a 8; poll 0 1"},
		{"put 0 a 5; poll 0 1; torn 0 a 7 1 0; back 0; poll 0 1", "put 0 a 5; put 0 a 7; drop 1; poll 0 1; poll 0 1"},
		// of takeovers
		{"put 0 a 5; put 0 a 6; poll 0 1; crash 0; takeover 1; back 0; poll 0 9", "put 0 a 5; put 0 a 6; takeover 1; poll 0 9"},
		{"put 0 a 5; crash 2; takeover 2; poll 0 9; back 2; poll 0 9", "takeover 2; put 0 a 5; poll 0 9"},
		{"put 1 a 5; takeover 0; crash 0; takeover 1; crash 1; takeover 2; back 1; poll 1 9; back 0", "put 1 a 5; takeover 2; takeover 2; takeover 2; poll 1 9"},
		// of cuts and resyncs
		{"put 0 a 5; put 0 a 6; cut 0 1; crash 0; back 0; resync 0; poll 0 9", "put 0 a 5; put 0 a 6; cut 0 1; resync 0; poll 0 9"},
		{"put 0 a 5; put 0 a 6; cut 0 1; resync 0; crash 0; back 0; cut 0 2; crash 0; back 0; resync 0; poll 0 9", "put 0 a 5; put 0 a 6; cut 0 1; resync 0; cut 0 2; resync 0; poll 0 9"},
		{"put 0 a 5; cut 0 1; torn 0 a 7 0 9; back 0; resync 0; put 0 a 8; poll 0 9", "put 0 a 5; cut 0 1; resync 0; put 0 a 8; poll 0 9"},
		// of exchanges and of hints
		{"crash 1; put 0 a 5; crash 2; back 1; back 2; handoff 2; exchange 0 0", "crash 1; put 0 a 5; back 1; handoff 2"},
		{"crash 1; put 0 a 5; handoff 2; crash 2; crash 0; back 2; back 1; back 0; handoff 2; crash 1; back 1", "crash 1; put 0 a 5; back 1; handoff 2"},
	} {
		one := newPlainWorld(t).withoutCodes(t, c.with)
		two := newPlainWorld(t).withoutCodes(t, c.without)
		if !alikeWorlds(one, two) || !impl.SameWorld(one, two) {
			t.Error(c.with, short(one), "not as", c.without, short(two))
		}
	}
}

func (w plainWorld) withoutCodes(t *testing.T, acts string) world {
	t.Helper()
	return w.doing(t, strings.Split(acts, ";")...).world()
}

// Whatever came, nodes that come back go on: all messages are delivered, hints are handed over, owners are made alike, and
// all events come into the stream, but those that were cut off ahead of it.
func TestWorldsThatGoOn(t *testing.T) {
	passed := 0
	for seed := range uint32(80) {
		r := newWorldRun(t, seed+900)
		for range impl.MaxActs {
			r.step(t)
		}
		w := r.plainWorld
		for id, up := range w.up {
			if !up {
				w = w.doing(t, fmt.Sprint("back ", id))
			}
		}
		for len(w.net) > 0 {
			w = w.doing(t, "deliver 0")
		}
		w = w.doing(t, "handoff 0", "handoff 1", "handoff 2", "exchange 0 0", "exchange 0 1", "exchange 1 0", "takeover 1")
		for id, x := range w.nodes {
			passed += max(0, x.cut-w.group.Acked[id])
			w = w.doing(t, fmt.Sprint("resync ", id), fmt.Sprint("poll ", id, " 3"), fmt.Sprint("poll ", id, " 100"))
		}
		got := w.world()
		same, code := impl.Converged(got.Cluster)
		if !same || code != impl.OK || len(got.Cluster.Hints) > 0 || got.Group.Acked != w.counts() {
			t.Fatal("not all came", same, code, got.Group, short(got))
		}
		if view, code := impl.ViewOf(got.Cluster.Nodes[0]); code != impl.OK || !impl.SameRows(view, w.doing(t, "resync 0").rows) {
			t.Fatal("rows", short(got.Rows), "not", short(view))
		}
	}
	if passed < 20 { // else it would show little
		t.Error("events that were cut off ahead of the stream:", passed)
	}
}

// As many acts as a run has, of one kind each: it stays right, and does what its acts do.
func TestRunsOfOneKind(t *testing.T) {
	for kind := 1; kind <= 14; kind++ {
		for n := range 3 {
			var steps []step
			for i := range impl.MaxActs {
				steps = append(steps, step{Kind: kind, Node: i % 3, N: (i / 3 * n) % 7, Key: clusterKeys[i*(n+1)%len(clusterKeys)], Value: i, Keep: n, Blind: n == 1})
			}
			if n == 2 {
				steps = append(stepsIn("put 0 a 5", "put 1 b 6", "put 2 e 7", "put 0 e 8 blind", "crash 1", "put 2 b 9", "put 0 k 3", "back 1", "deliver 0"), steps...)[:impl.MaxActs]
			}
			runAsTold(t, steps)
		}
	}
}
