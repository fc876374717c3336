package tests

import (
	"slices"
	"strings"
	"testing"

	"loop.example/g00535/impl"
)

// runAsTold does acts that are right on a new plain world.
func runAsTold(t *testing.T, steps []step) plainWorld {
	t.Helper()
	w := newPlainWorld(t)
	var want []int
	for _, s := range steps {
		next, code := w.done(t, s)
		w, want = next, append(want, code)
	}
	was := slices.Clone(steps)
	got, codes, code := impl.WorldRun(steps)
	if !alikeWorlds(got, w.world()) || !slices.Equal(codes, want) || code != impl.OK {
		t.Fatal("WorldRun", short(steps), short(got), codes, code, "not", short(w.world()), want)
	}
	if !impl.WorldOK(got) || !slices.Equal(steps, was) {
		t.Fatal("WorldRun", short(steps), "a world that is not right, or another list", short(got))
	}
	return w
}

func TestRunsByHand(t *testing.T) {
	for _, c := range []struct {
		acts  string
		codes []int
	}{
		{"put 0 a 5; deliver 0; deliver 0; put 2 a 5", []int{0, 0, impl.ErrNone, impl.ErrOwner}},
		{"back 0; crash 0; crash 0; put 0 a 5; back 0; put 0 a 5", []int{impl.ErrUp, 0, impl.ErrDown, impl.ErrDown, 0, 0}},
		{"put 0 - 5", []int{impl.ErrKey}},
		{"crash 0; crash 1; put 0 a 5; put 0 a 5 blind; delete 2 a; poll 0 1; takeover 0", []int{0, 0, impl.ErrQuorum, impl.ErrDown, impl.ErrQuorum, impl.ErrDown, 0}},
		{"put 0 a 5; cut 0 1; cut 0 1; poll 0 1; resync 0; poll 0 1", []int{0, 0, impl.ErrRange, impl.ErrCut, 0, 0}},
		{"put 0 a 5; crash 1; deliver 0; deliver 0", []int{0, 0, impl.ErrDown, impl.ErrNone}},
	} {
		steps := stepsIn(strings.Split(c.acts, ";")...)
		runAsTold(t, steps)
		if _, codes, code := impl.WorldRun(steps); !slices.Equal(codes, c.codes) || code != impl.OK {
			t.Error("WorldRun", c, codes, code)
		}
	}
}

func TestRunsOfNothing(t *testing.T) {
	for _, steps := range [][]step{nil, {}} {
		w, codes, code := impl.WorldRun(steps)
		if !alikeWorlds(w, newPlainWorld(t).world()) || len(codes) != 0 || code != impl.OK {
			t.Error("WorldRun", steps, w, codes, code)
		}
	}
}

func repeatedSteps(many int, texts ...string) []step {
	steps := stepsIn(texts...)
	return slices.Repeat(steps, many/len(steps)+1)[:many]
}

// MaxActs acts and one more, and lists of MaxList and of one more: what is long is told ahead of what is many, and that
// ahead of what is bad; beside each of them all is zero.
func TestRunsThatAreTooLong(t *testing.T) {
	for _, texts := range [][]string{{"put 0 a 5"}, {"put 0 a 5 blind", "deliver 0"}, {"put 0 a 5", "poll 0 1", "crash 1", "put 0 a 6", "back 1", "handoff 2"}, {"back 0"}} {
		for _, many := range []int{1, impl.MaxActs - 1, impl.MaxActs} {
			runAsTold(t, repeatedSteps(many, texts...))
		}
	}
	right := repeatedSteps(impl.MaxList+1, "put 0 a 5")
	for _, c := range []struct{ many, code int }{
		{impl.MaxActs + 1, impl.ErrMany}, {2 * impl.MaxActs, impl.ErrMany}, {impl.MaxList - 1, impl.ErrMany}, {impl.MaxList, impl.ErrMany}, {impl.MaxList + 1, impl.ErrLong},
	} {
		for _, steps := range [][]step{right[:c.many], make([]step, c.many), append(slices.Clone(right[:c.many-1]), step{Kind: 15})} {
			if w, codes, code := impl.WorldRun(steps); !isZeroWorld(w) || len(codes) > 0 || code != c.code {
				t.Error("WorldRun", c.many, short(w), short(codes), code, "not", c.code)
			}
		}
	}
	if w, codes, code := impl.WorldRun(make([]step, 2*impl.MaxList)); !isZeroWorld(w) || len(codes) > 0 || code != impl.ErrLong {
		t.Error("WorldRun", short(w), short(codes), code)
	}
}

// One act that is not right, at each place of a run: none of the others is done.
func TestRunsWithAWrongAct(t *testing.T) {
	wrong := wrongSteps()
	for at := range impl.MaxActs {
		steps := repeatedSteps(impl.MaxActs, "put 0 a 5", "deliver 0", "put 2 a 5")
		steps[at] = wrong[at*7%len(wrong)]
		if w, codes, code := impl.WorldRun(steps); !isZeroWorld(w) || len(codes) > 0 || code != impl.ErrBad {
			t.Error("WorldRun", at, short(w), codes, code)
		}
		if w, codes, code := impl.WorldRun(steps[:at+1]); !isZeroWorld(w) || len(codes) > 0 || code != impl.ErrBad {
			t.Error("WorldRun", at, short(w), codes, code)
		}
		runAsTold(t, steps[:at])
	}
}

// Changes of a world behind each of which it is right, and is another one.
func otherWorlds(t *testing.T) []world {
	some := plainWorldOf(t, somePlain(t)).followed(3, 1, vv{1, 2, 0}).withRows(viewRows)
	all := append([]world{some.world()}, changedWorlds(some,
		func(w *world) { w.Cluster.Up[0] = false },
		func(w *world) { w.Cluster.Up[2] = false },
		func(w *world) { w.Cluster.Net = nil },
		func(w *world) { w.Cluster.Net = w.Cluster.Net[:3] },
		func(w *world) { w.Cluster.Net = append(w.Cluster.Net, w.Cluster.Net[0]) },
		func(w *world) { w.Cluster.Net[0], w.Cluster.Net[1] = w.Cluster.Net[1], w.Cluster.Net[0] },
		func(w *world) { w.Cluster.Net[0].From = 2 },
		func(w *world) { w.Cluster.Net[1].To, w.Cluster.Net[1].From, w.Cluster.Net[1].Key = 0, 1, "e" },
		func(w *world) { w.Cluster.Net[2].From = 1 },
		func(w *world) { w.Cluster.Net[0].Key = otherKey },
		func(w *world) { w.Cluster.Net[0].Obj = objIn("1.1.0|a1=5|b1=7") },
		func(w *world) { w.Cluster.Net[0].Obj = objIn("1.1.0|a1=5|b1!") },
		func(w *world) { w.Cluster.Net[0].Obj = objIn("1.1.0|a1=5") },
		func(w *world) { w.Cluster.Net[0].Obj = objIn("1.1.1|a1=5|b1=6") },
		func(w *world) { w.Cluster.Hints = w.Cluster.Hints[1:] },
		func(w *world) { w.Cluster.Hints[0].From = 0 },
		func(w *world) { w.Cluster.Hints[0].To = 0 },
		func(w *world) { w.Cluster.Hints[0].Key = otherKey },
		func(w *world) { w.Cluster.Hints[1].Obj = objIn("1.0.0") },
		func(w *world) { w.Cluster.Net, w.Cluster.Hints = w.Cluster.Hints, w.Cluster.Net },
		func(w *world) { w.Events[1].Value, w.Events[1].Dead = 0, !w.Events[1].Dead },
		func(w *world) { w.Events[0].Value++ },
		func(w *world) { w.Events[0].Key = "k" },
		func(w *world) { w.Events[1].Ctx[0] = 1 },
		func(w *world) { w.Events[4].Ctx[2] = 0; w.Events[4].Ctx[1] = 2 },
		func(w *world) { w.Events[1], w.Events[2] = w.Events[2], w.Events[1] },
		func(w *world) { w.Group.Epoch++ },
		func(w *world) { w.Group.Owner = 2 },
		func(w *world) { w.Group.Acked[0] = 2 },
		func(w *world) { w.Group.Stream = w.Group.Stream[:2] },
		func(w *world) { w.Group.Stream[0], w.Group.Stream[1] = w.Group.Stream[1], w.Group.Stream[0] },
		func(w *world) { w.Rows = nil },
		func(w *world) { w.Rows = w.Rows[1:] },
		func(w *world) { w.Rows[0].Key = "ab" },
		func(w *world) { w.Rows[0].Values[1] = 8 },
		func(w *world) { w.Rows[0].Values = w.Rows[0].Values[:1] },
		func(w *world) { w.Rows[6] = row{Part: 3, Key: "a", Values: []int{7}} })...)
	for _, records := range [][]string{
		// a line more, and what came of it
		{"put a 1.0.0|a1=5", "join a 1.1.0|a1=5|b1=6", "put e 2.0.0|a2!", "cut 1"},
		{"put a 1.0.0|a1=5", "join a 1.1.0|a1=5|b1=6", "put e 2.0.0|a2!", "cut 2"},
		{"put a 1.0.0|a1=5", "join a 1.1.0|a1=5|b1=6", "put e 2.0.0|a2!", "join k 0.1.0"},
		// the same by other lines
		{"put a 1.0.0|a1=5", "join a 1.1.0|a1=5", "join e 0.0.1", "put e 2.0.1|a2!"},
		{"put a 1.0.0|a1=5", "put e 2.0.0|a2!", "join a 1.1.0|a1=5|b1=6"},
		{"put a 1.0.0|a1=5", "put e 2.0.0|a2!", "join a 1.1.0|a1=5|b1=7"},
		{"put a 1.0.0|a1=5", "put k 2.0.0|a2!", "join a 1.1.0|a1=5|b1=6"},
	} {
		other := some
		other.plainCluster = some.with(t, 0, records)
		all = append(all, other.world())
	}
	return append(all, impl.NewWorld(), eventful(t, 99).world(), eventful(t, 100).world())
}

func TestSameWorlds(t *testing.T) {
	all := otherWorlds(t)
	for i, a := range all {
		if !impl.WorldOK(a) {
			t.Fatal("WorldOK", i, short(a))
		}
		was := copyOfWorld(a)
		for k, b := range all {
			if impl.SameWorld(a, b) != (i == k) {
				t.Error("SameWorld", i, k, short(a), short(b))
			}
		}
		if !impl.SameWorld(a, was) || !impl.SameWorld(was, a) || !alikeWorlds(a, was) {
			t.Error("SameWorld of a copy", i)
		}
	}
}

// Lists that are nil and lists that are empty are the same.
func TestSameWorldsOfEmptyLists(t *testing.T) {
	nils := impl.NewWorld()
	empties := copyOfWorld(nils)
	for id := range empties.Cluster.Nodes {
		empties.Cluster.Nodes[id] = node{Id: id, Cells: []cell{}, Feed: []entry{}, Disk: disk{Sure: []string{}, Unsure: []string{}}}
	}
	empties.Cluster.Net, empties.Cluster.Hints = []msg{}, []msg{}
	empties.Events, empties.Group.Stream, empties.Rows = []deed{}, []dot{}, []row{}
	if !impl.SameWorld(nils, empties) || !impl.SameWorld(empties, nils) || !impl.SameWorld(empties, empties) {
		t.Error("SameWorld")
	}
	for _, s := range stepsOfAllKinds() {
		one, oneCode := impl.WorldDo(nils, s)
		two, twoCode := impl.WorldDo(empties, s)
		if oneCode != twoCode || !impl.SameWorld(one, two) {
			t.Fatal("WorldDo", s, oneCode, twoCode)
		}
	}
	none := plainWorldOf(t, plainClusterOf(t, [impl.Nodes][]string{nil, {"put a 0.1.0|b1=5"}, nil})).world()
	none.Cluster.Net = []msg{{From: 0, To: 1, Key: "a", Obj: obj{Sibs: []sibling{}}}}
	same := copyOfWorld(none)
	same.Cluster.Net[0].Obj.Sibs = nil
	if !impl.SameWorld(none, same) {
		t.Error("SameWorld of objects without siblings")
	}
}
