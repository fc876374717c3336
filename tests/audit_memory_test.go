package tests

import (
	"runtime"
	"slices"
	"strings"
	"testing"
	"testing/synctest"

	"loop.example/g00535/impl"
)

// Promise 1, of audits: a world or a node that was asked about is as it was, up to the end of each of its lists and behind
// it, and lines that are answered share no memory with a later answer.

// What is told of a world, a node or a text: calls leave out what they do not tell.
type auditAnswer struct {
	Lines []string
	Act   step
	Yes   bool
	Code  int
}

type auditGiven struct {
	World world
	Node  node
	Text  string
}

type auditCall struct {
	name string
	ask  func(g auditGiven) auditAnswer
}

func yesCall(name string, ask func(w world) (bool, int)) auditCall {
	return auditCall{name, func(g auditGiven) auditAnswer {
		yes, code := ask(g.World)
		return auditAnswer{Yes: yes, Code: code}
	}}
}

var auditCalls = []auditCall{
	yesCall("Bounded", impl.Bounded), yesCall("Settled", impl.Settled), yesCall("StreamTrue", impl.StreamTrue), yesCall("ViewTrue", impl.ViewTrue),
	{"WorldText", func(g auditGiven) auditAnswer {
		lines, code := impl.WorldText(g.World)
		return auditAnswer{Lines: lines, Code: code}
	}},
	{"NodeText", func(g auditGiven) auditAnswer {
		lines, code := impl.NodeText(g.Node)
		return auditAnswer{Lines: lines, Code: code}
	}},
	{"NodeText of the world's", func(g auditGiven) auditAnswer {
		if len(g.World.Cluster.Nodes) == 0 {
			return auditAnswer{}
		}
		lines, code := impl.NodeText(g.World.Cluster.Nodes[0])
		return auditAnswer{Lines: lines, Code: code}
	}},
	{"ReadAct", func(g auditGiven) auditAnswer {
		s, code := impl.ReadAct(g.Text)
		return auditAnswer{Act: s, Code: code}
	}},
}

// Right and wrong worlds, nodes and texts. What is large comes seldom.
func givenToAudits(t *testing.T) []auditGiven {
	t.Helper()
	worlds := []world{somethingDone(t).world(), tightWorld(t, impl.MaxRecords).world(), somethingDone(t).noting(t, 0, "join k 0.1.0").world()}
	for _, g := range givenToWorlds(t) {
		worlds = append(worlds, g.World)
	}
	nodes := slices.Concat(rightNodes(t), feedNodes(t), wrongNodes(t)[:30])
	texts := slices.Concat(actTexts, noActs, []string{strings.Repeat(" ", impl.MaxText-9) + "crash 1", strings.Repeat("9", impl.MaxText+1)})
	var all []auditGiven
	for i := range max(len(worlds), len(nodes), len(texts)) {
		all = append(all, auditGiven{worlds[i%len(worlds)], nodes[i%len(nodes)], texts[i%len(texts)]})
	}
	return all
}

func TestNoAuditTouchesWhatItIsGiven(t *testing.T) {
	for i, given := range givenToAudits(t) {
		l := lendingOf(given)
		for _, c := range auditCalls {
			touchesNothing(t, l, c.ask, c.name, i)
		}
	}
}

// Lines that are written into change neither what was asked about nor a later answer.
func TestLinesOfAuditsAreTheirOwn(t *testing.T) {
	w := somethingDone(t)
	given := lentCopy(w.world())
	was := wide(given)
	for range 3 {
		text, _ := impl.WorldText(given)
		again, _ := impl.WorldText(given)
		scribble(text, "scribble")
		if !slices.Equal(again, w.textTold()) {
			t.Error("WorldText", again)
		}
		for id, x := range given.Cluster.Nodes {
			text, _ := impl.NodeText(x)
			again, _ := impl.NodeText(x)
			want, _ := nodeTextTold(givenNode{x, true})
			scribble(text, "scribble")
			if !slices.Equal(again, want) {
				t.Error("NodeText", id, again, "not", want)
			}
		}
		if wide(given) != was {
			t.Fatal("what was asked about is changed", short(given))
		}
	}
}

// A world that is asked about between its acts goes on as one that is not.
func TestAskingChangesNothing(t *testing.T) {
	for seed := range uint32(5) {
		r := newWorldRun(t, seed+60)
		for range impl.MaxActs {
			s := r.drawStep()
			next, code := r.done(t, s)
			r.plainWorld, r.steps, r.codes = next, append(r.steps, s), append(r.codes, code)
		}
		w := impl.NewWorld()
		for i, s := range r.steps {
			for _, c := range auditCalls {
				c.ask(auditGiven{World: w, Node: w.Cluster.Nodes[i%3], Text: actTexts[i%len(actTexts)]})
			}
			next, code := impl.WorldDo(w, s)
			if code != r.codes[i] {
				t.Fatal("WorldDo", s, code, "not", r.codes[i])
			}
			w = next
		}
		if !alikeWorlds(w, r.world()) {
			t.Error("it went on in another way", short(w), short(r.world()))
		}
	}
}

// A world whose lists stand in one memory is no other case.
func TestAuditsOfAWorldThatHasOneListTwice(t *testing.T) {
	w := somethingDone(t).world()
	w.Cluster.Net = []msg{sent(0, 1, "a", "1.1.0|a1=5|b1=6"), sent(1, 0, "a", "1.1.0|a1=5|b1=6")}
	w.Cluster.Net[1].Obj.Sibs = w.Cluster.Net[0].Obj.Sibs
	w.Cluster.Hints = w.Cluster.Net
	given, apartFrom := auditGiven{World: w}, auditGiven{World: copyOfWorld(w)}
	was := wide(w)
	for _, c := range auditCalls {
		if got, want := c.ask(given), c.ask(apartFrom); told(c.name, got) != told(c.name, want) || wide(w) != was {
			t.Error(c.name, got, "not", want)
		}
	}
	if got := auditsOf(t, w, impl.OK); got != allTrue {
		t.Error("audits", got)
	}
	runtime.KeepAlive(given)
}

// No goroutine waits for anything behind a call.
func TestAuditsLeaveNoGoroutine(t *testing.T) {
	all := givenToAudits(t)
	synctest.Test(t, func(t *testing.T) {
		for i, given := range all {
			if i%3 > 0 {
				continue
			}
			for _, c := range auditCalls {
				c.ask(given)
			}
		}
	})
}

func callsOfAudits(t *testing.T) []call {
	var all []call
	for _, given := range givenToAudits(t) {
		for _, c := range auditCalls {
			all = append(all, func() string { return told(c.name, c.ask(given)) })
		}
	}
	return all
}
