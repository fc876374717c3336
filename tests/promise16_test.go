package tests

import (
	"fmt"
	"slices"
	"testing"

	"loop.example/g00535/impl"
)

// Promise 16: whatever comes, no replica has anything that is not of the events, and settled the owners of each key have
// what all events make; a group's stream has no event twice. What the audits say is held against what stands there.

// nothingElse asks of each object of each node that it has no sibling that none of its key's events wrote, and knows
// nothing that these, and their contexts, do not.
func nothingElse(t *testing.T, w world, what ...any) {
	t.Helper()
	for id, x := range w.Cluster.Nodes {
		for _, c := range x.Cells {
			model, code := modelTold(w.Events, c.Key)
			if code != impl.OK || !coversTold(model, c.Obj) {
				t.Fatal("node", id, "has of", c.Key, objTold(c.Obj), "the events make", objTold(model), what)
			}
			for _, s := range c.Obj.Sibs {
				if !slices.ContainsFunc(w.Events, func(e deed) bool { return e.Dot == s.Dot && e.Key == c.Key && e.Value == s.Value && e.Dead == s.Dead }) {
					t.Fatal("node", id, "has of", c.Key, s, "which nobody wrote", what)
				}
			}
		}
	}
}

// allThere asks that both owners of each key, and nobody else, have what all events make.
func allThere(t *testing.T, w world, what ...any) {
	t.Helper()
	for _, key := range keysOfDeeds(w.Events) {
		model, _ := modelTold(w.Events, key)
		owners := ownersTold(key)
		for i, id := range owners {
			want := model
			if i == 2 {
				want = obj{}
			}
			if got := hadAt(w.Cluster.Nodes[id], key); !alike(got, want) {
				t.Fatal("node", id, "has of", key, objTold(got), "not", objTold(want), what)
			}
		}
	}
	nothingElse(t, w, what...)
}

// holdsAll asks of a world that acts made of a new one for all parts of the promise, and for each answer of the audit.
func holdsAll(t *testing.T, w world, what ...any) {
	t.Helper()
	if got := auditsOf(t, w, impl.OK); got != allTrue {
		t.Fatal("audits", got, short(w), what)
	}
	nothingElse(t, w, what...)
	settled, code := impl.SettleAll(w.Cluster)
	if code != impl.OK {
		t.Fatal("SettleAll", code, what)
	}
	after := w
	after.Cluster = settled
	allThere(t, after, what...)
	if got := auditsOf(t, after, impl.OK); got != allTrue {
		t.Fatal("audits of what is settled", got, short(after), what)
	}
	if !streamTold(w) || !viewTrueTold(w) {
		t.Fatal("stream", w.Group.Stream, "rows", w.Rows, what)
	}
}

// Behind each act of drawn runs.
func TestWhateverActsCome(t *testing.T) {
	met := map[int]int{}
	streamed, rows, unlike, crowded := 0, 0, 0, 0
	for seed := range uint32(60) {
		r := newWorldRun(t, seed+1600)
		for range impl.MaxActs {
			r.step(t)
			w := r.world()
			holdsAll(t, w, r.steps)
			if same, _ := impl.Converged(w.Cluster); !same {
				unlike++
			}
		}
		w := r.world()
		streamed, rows = streamed+len(w.Group.Stream), rows+len(w.Rows)
		for i, s := range r.steps {
			if r.codes[i] == impl.OK {
				met[s.Kind]++
			}
		}
		for _, x := range w.Cluster.Nodes {
			for _, c := range x.Cells {
				if len(c.Obj.Sibs) > 1 {
					crowded++
				}
			}
		}
	}
	for kind := 1; kind <= 14; kind++ {
		if met[kind] < 20 { // else it would show little
			t.Error("acts of kind", kind, met[kind])
		}
	}
	if streamed < 300 || rows < 60 || unlike < 1000 || crowded < 100 {
		t.Error("events in streams", streamed, "rows", rows, "owners that were unlike", unlike, "keys with siblings", crowded)
	}
}

// All runs of up to four of these acts, one behind the other.
func TestWhateverFewActsCome(t *testing.T) {
	acts := stepsIn("put 0 a 5", "put 1 a 6", "put 1 a 7 blind", "delete 0 a", "deliver 0", "twice 0", "crash 1", "back 1", "torn 1 a 8 0 100", "handoff 2", "poll 0 1", "cut 0 1", "resync 0")
	seen := 0
	var ask func(w world, left int, done []step)
	ask = func(w world, left int, done []step) {
		if left == 0 {
			return
		}
		for _, s := range acts {
			next, code := impl.WorldDo(w, s)
			if code != impl.OK && s.Kind != impl.AcDeliver {
				continue // it is as it was
			}
			run := append(slices.Clone(done), s)
			holdsAll(t, next, run)
			seen++
			ask(next, left-1, run)
		}
	}
	ask(impl.NewWorld(), 4, nil)
	if seen < 1000 { // else it would show little
		t.Error("worlds:", seen)
	}
}

// More acts than a run has, up to as many events as there may be, and on behind that.
func TestWorldsOfManyActs(t *testing.T) {
	for seed := range uint32(3) {
		r := newWorldRun(t, seed+1660)
		full := 0
		for n := 0; full < 40 && n < 3000; n++ {
			r.step(t)
			if len(r.plainWorld.deeds) == impl.MaxEvents {
				full++
			}
			if n%20 == 0 || full > 0 {
				holdsAll(t, r.world(), "seed", seed, n)
			}
		}
		if full < 40 {
			t.Error("events", len(r.plainWorld.deeds))
		}
		r.textAsTold(t)
		r.auditsAsTold(t)
	}
}

// Not only as SettleAll does it: whatever makes all owners alike leaves them with what all events make, in whatever order
// nodes come back, messages are delivered or lost, hints are handed over, and two nodes exchange.
func TestHoweverAllIsSettled(t *testing.T) {
	for seed := range uint32(40) {
		r := newWorldRun(t, seed+1700)
		for range impl.MaxActs {
			r.step(t)
		}
		w := r.world()
		for _, id := range []int{2, 0, 1} {
			if !w.Cluster.Up[id] {
				w = do(t, w, fmt.Sprint("back ", id))
			}
		}
		for len(w.Cluster.Net) > 0 {
			w = do(t, w, fmt.Sprint([]string{"deliver ", "drop "}[r.draw(2)], r.draw(len(w.Cluster.Net))))
		}
		w = do(t, w, "handoff 1", "handoff 2", "handoff 0")
		for _, text := range [][]string{{"exchange 1 0", "exchange 0 1", "exchange 0 0"}, {"exchange 0 0", "exchange 1 0", "exchange 2 0"}, {"exchange 2 0", "exchange 2 1", "exchange 1 1"}} {
			holdsAll(t, w, seed)
			way := do(t, w, text...)
			allThere(t, way, seed, text)
			holdsAll(t, do(t, way, "crash 0", "crash 1", "back 1", "crash 2", "back 0", "back 2"), seed, text)
		}
	}
}

// Owners of groups that are late, taken over, polled again and again, behind crashes and cuts: no event stands twice in the
// stream, and each is one of the world's.
func TestNoStreamHasAnEventTwice(t *testing.T) {
	for seed := range uint32(30) {
		r := newWorldRun(t, seed+1800)
		for n := range impl.MaxActs {
			id := r.draw(3)
			texts := []string{fmt.Sprint("put ", id, " a 5"), fmt.Sprint("put ", id, " e 6 blind"), fmt.Sprint("poll ", id, " ", r.draw(4)), fmt.Sprint("poll ", id, " 100"), fmt.Sprint("takeover ", id),
				fmt.Sprint("crash ", id), fmt.Sprint("back ", id), fmt.Sprint("cut ", id, " ", r.draw(9)), fmt.Sprint("resync ", id), fmt.Sprint("torn ", id, " e 7 ", r.draw(2), " ", r.draw(101))}
			next, _ := r.asTold(t, stepIn(texts[r.draw(len(texts))]))
			r.plainWorld = next
			w := r.world()
			for i, d := range w.Group.Stream {
				if slices.Contains(w.Group.Stream[:i], d) || d.N > countTold(w.Events, d.Node) {
					t.Fatal("stream", w.Group.Stream, "events", deedTexts(w.Events), seed, n)
				}
			}
			if yes, code := impl.StreamTrue(w); !yes || code != impl.OK {
				t.Fatal("StreamTrue", yes, code, w.Group, seed, n)
			}
		}
	}
}

// What nobody wrote is found wherever it stands, however much there is beside it: of a world that holds all, one node at a
// time gets a sibling, or knowledge, that is of no event of its key.
func TestWhatNobodyWroteIsFound(t *testing.T) {
	found := 0
	for seed := range uint32(30) {
		r := newWorldRun(t, seed+1900)
		for range impl.MaxActs {
			r.step(t)
		}
		for id, x := range r.nodes {
			for key, o := range x.objs {
				for other, n := range r.modelOf(key).Seen {
					if n == r.nodes[other].count || other == id {
						continue // nothing was behind it
					}
					more := objIn(objTold(o))
					more.Seen[other] = n + 1
					knowing := r.plainWorld.noting(t, id, "join "+key+" "+objTold(more)).auditsAsTold(t)
					more.Sibs = append(slices.Clone(more.Sibs), live(other, n+1, 5))
					having := r.plainWorld.noting(t, id, "join "+key+" "+objTold(inOrder(more))).auditsAsTold(t)
					if knowing.bounded || having.bounded || having.settled {
						t.Fatal("not found:", id, key, objTold(more), knowing, having)
					}
					found++
				}
			}
		}
	}
	if found < 100 { // else it would show little
		t.Error("found:", found)
	}
}
