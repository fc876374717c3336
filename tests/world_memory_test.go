package tests

import (
	"math"
	"runtime"
	"slices"
	"strings"
	"testing"
	"testing/synctest"

	"loop.example/g00535/impl"
)

// Promise 1, of worlds: an argument is as it was behind the call, up to the end of each of its lists and behind it; nodes,
// messages, hints, events, the stream and rows that are answered share no memory with an argument, nor with each other, nor
// with a later answer.

// What a call on a world and acts answers: calls leave out what they do not tell.
type worldAnswer struct {
	World world
	Codes []int
	Yes   bool
	Code  int
}

type worldGiven struct {
	World, Other world
	Steps        []step
}

type worldCall struct {
	name string
	ask  func(g worldGiven) worldAnswer
}

func doCall(s step) worldCall {
	return worldCall{named("WorldDo", s), func(g worldGiven) worldAnswer {
		w, code := impl.WorldDo(g.World, s)
		return worldAnswer{World: w, Code: code}
	}}
}

// Each call, with each of its codes, and acts of each kind, right and wrong.
func worldCalls() []worldCall {
	all := []worldCall{
		{"NewWorld", func(g worldGiven) worldAnswer { return worldAnswer{World: impl.NewWorld()} }},
		{"WorldOK", func(g worldGiven) worldAnswer { return worldAnswer{Yes: impl.WorldOK(g.World)} }},
		{"SameWorld", func(g worldGiven) worldAnswer { return worldAnswer{Yes: impl.SameWorld(g.World, g.Other)} }},
		{"SameWorld of one twice", func(g worldGiven) worldAnswer { return worldAnswer{Yes: impl.SameWorld(g.World, g.World)} }},
		{"ActOK", func(g worldGiven) worldAnswer { return worldAnswer{Yes: len(g.Steps) > 0 && impl.ActOK(g.Steps[0])} }},
		{"WorldRun", func(g worldGiven) worldAnswer {
			w, codes, code := impl.WorldRun(g.Steps)
			return worldAnswer{World: w, Codes: codes, Code: code}
		}},
		{"WorldRun of the first", func(g worldGiven) worldAnswer {
			w, codes, code := impl.WorldRun(g.Steps[:min(1, len(g.Steps))])
			return worldAnswer{World: w, Codes: codes, Code: code}
		}},
		doCall(step{}), doCall(step{Kind: 15}), doCall(step{Kind: math.MaxInt, Node: math.MinInt}), doCall(step{Kind: 1, Key: longKeys[0]}),
	}
	for _, s := range stepsForMemory {
		all = append(all, doCall(s))
	}
	return all
}

var stepsForMemory = stepsIn("put 0 a 5", "put 0 a 5 blind", "put 1 b 6", "put 0 - 5", "put 2 a 5", "delete 0 a", "delete 2 e blind", "deliver 0", "deliver 1", "deliver 3",
	"deliver 100", "drop 0", "drop 2", "drop 100", "twice 0", "twice 1", "twice 100", "crash 0", "crash 1", "back 0", "back 2", "torn 0 a 5 0 0", "torn 0 a 5 1 0",
	"torn 1 b 6 0 100", "torn 2 a 5 1 0", "exchange 0 0", "exchange 0 1", "exchange 1 0", "handoff 0", "handoff 1", "handoff 2", "poll 0 0", "poll 0 1", "poll 0 100",
	"poll 1 100", "poll 2 3", "takeover 0", "takeover 2", "cut 0 1", "cut 0 2", "cut 1 2", "cut 2 100", "resync 0", "resync 1")

// Right and wrong worlds, and lists of acts of each length. What is large comes seldom.
func givenToWorlds(t *testing.T) []worldGiven {
	t.Helper()
	var worlds []world
	for i, w := range plainWorlds(t) {
		if i%2 == 0 {
			worlds = append(worlds, w.world())
		}
	}
	for _, r := range worldsOfRuns(t, 12, 60) {
		worlds = append(worlds, r.world())
	}
	for i, w := range wrongWorlds(t) {
		if i%90 == 0 {
			worlds = append(worlds, w)
		}
	}
	lists := [][]step{nil, stepsForMemory, repeatedSteps(impl.MaxActs, "put 0 a 5", "put 1 b 6 blind", "crash 2", "put 0 e 7", "back 2", "handoff 1", "poll 0 2"),
		append(slices.Clone(stepsForMemory), step{}), repeatedSteps(impl.MaxActs+1, "put 0 a 5")}
	var all []worldGiven
	for i, w := range worlds {
		all = append(all, worldGiven{World: w, Other: worlds[i*5%len(worlds)], Steps: lists[i%len(lists)]})
	}
	return append(all, worldGiven{World: worlds[0], Other: copyOfWorld(worlds[0]), Steps: make([]step, impl.MaxList+1)})
}

func TestNoCallTouchesAWorld(t *testing.T) {
	for i, given := range givenToWorlds(t) {
		l := lendingOf(given)
		for _, c := range worldCalls() {
			touchesNothing(t, l, c.ask, c.name, i)
		}
	}
}

// A world that goes on in several ways: none of them reaches into another one, nor into that from which they come, though
// that has room behind the end of each of its lists.
func TestWorldsThatPart(t *testing.T) {
	begin := lentCopy(newPlainWorld(t).doing(t, "put 0 a 5", "put 0 e 6", "crash 1", "put 0 a 7", "poll 0 1").world())
	var ways []world
	var texts []string
	for _, c := range []string{"put 0 a 8", "put 0 a 9 blind", "delete 0 e", "torn 0 a 9 1 0", "poll 0 1", "poll 0 2", "deliver 1", "drop 0", "twice 0", "cut 0 1", "takeover 2", "resync 0",
		"back 1; handoff 2", "put 0 a 8; put 0 a 9; poll 0 9", "put 2 e 8; deliver 2; poll 0 9", "exchange 0 1; resync 0"} {
		w := do(t, begin, strings.Split(c, ";")...)
		ways, texts = append(ways, w), append(texts, wide(w))
		for _, more := range []string{"put 0 e 1 blind", "poll 0 9", "twice 0", "cut 0 3"} {
			impl.WorldDo(w, stepIn(more))
		}
	}
	for i, w := range ways {
		if wide(w) != texts[i] {
			t.Error("another way reaches into this one", i, short(w))
		}
	}
	want := newPlainWorld(t).doing(t, "put 0 a 5", "put 0 e 6", "crash 1", "put 0 a 7", "poll 0 1").world()
	if !alikeWorlds(begin, want) {
		t.Error("changed", short(begin))
	}
}

// A world whose lists stand in one memory is no other case.
func TestAWorldThatHasOneListTwice(t *testing.T) {
	w := plainWorldOf(t, somePlain(t)).followed(2, 1, vv{1, 1, 0}).world()
	w.Cluster.Net = []msg{sent(0, 1, "a", "1.1.0|a1=5|b1=6"), sent(0, 1, "a", "1.1.0|a1=5|b1=6")}
	w.Cluster.Nodes[0].Cells[0].Obj.Sibs = w.Cluster.Net[0].Obj.Sibs
	w.Cluster.Net[1].Obj.Sibs = w.Cluster.Net[0].Obj.Sibs
	w.Cluster.Hints = w.Cluster.Net
	w.Rows = rowsInOneList()
	if !impl.WorldOK(w) {
		t.Fatal("WorldOK", w)
	}
	given, apartFrom := worldGiven{World: w, Other: w}, worldGiven{World: copyOfWorld(w), Other: copyOfWorld(w)}
	for _, c := range worldCalls() {
		was := wide(w)
		got, want := c.ask(given), c.ask(apartFrom)
		if told(c.name, got) != told(c.name, want) {
			t.Error(c.name, short(got), "not", short(want))
		}
		if own := spansOf(got); !apart(own, spansOf(w)) || !allApart(own) || wide(w) != was {
			t.Error(c.name, "answers memory that others have")
		}
		runtime.KeepAlive(got)
	}
}

// No goroutine waits for anything behind a call.
func TestWorldsLeaveNoGoroutine(t *testing.T) {
	given := givenToWorlds(t)
	synctest.Test(t, func(t *testing.T) {
		for i, g := range given {
			if i%4 > 0 {
				continue
			}
			for _, c := range worldCalls() {
				c.ask(g)
			}
		}
	})
}

func callsOfWorlds(t *testing.T) []call {
	var all []call
	for i, given := range givenToWorlds(t) {
		if i%3 > 0 {
			continue
		}
		for _, c := range worldCalls() {
			all = append(all, func() string { return told(c.name, c.ask(given)) })
		}
	}
	return all
}
