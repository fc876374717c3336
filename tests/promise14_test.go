package tests

import (
	"slices"
	"testing"

	"loop.example/g00535/impl"
)

// Promise 14: events written one by one make what all of them make at once.

// oneByOne writes the events of a key, as they stand in the list, into an object that was empty.
func oneByOne(t *testing.T, list []deed, key string) obj {
	t.Helper()
	var o obj
	for _, e := range list {
		if e.Key != key {
			continue
		}
		next, code := impl.Write(o, e.Ctx, e.Dot, e.Value, e.Dead)
		if code != impl.OK {
			t.Fatal("Write", short(o), e, code)
		}
		o = next
	}
	return o
}

// atOnce holds all that the list's events make at once against what they make one by one; of each beginning of the list,
// too, if that is asked for.
func atOnce(t *testing.T, list []deed, beginnings bool) {
	t.Helper()
	least := len(list)
	if beginnings {
		least = 0
	}
	for many := least; many <= len(list); many++ {
		ahead := list[:many]
		for _, key := range append(keysOfDeeds(list), "other") {
			got, code := impl.ModelObj(ahead, key)
			if want := oneByOne(t, ahead, key); !alike(got, want) || code != impl.OK {
				t.Fatal("ModelObj", short(ahead), key, short(got), code, "one by one", short(want))
			}
		}
	}
}

// siblingsJust asks that an event is a sibling just if no other event of its key knows it; that it is there as it was
// written, and that nothing else is.
func siblingsJust(t *testing.T, list []deed) {
	t.Helper()
	many := 0
	for _, key := range keysOfDeeds(list) {
		o, code := impl.ModelObj(list, key)
		if code != impl.OK {
			t.Fatal("ModelObj", short(list), key, code)
		}
		many += len(o.Sibs)
	}
	for i, e := range list {
		o, _ := impl.ModelObj(list, e.Key)
		is := slices.Contains(o.Sibs, sibling{Dot: e.Dot, Value: e.Value, Dead: e.Dead})
		if is == knownByAnother(list, i) || is != hasDot(o.Sibs, e.Dot) {
			t.Fatal("event", e, "of", short(list), "a sibling:", is)
		}
		if over, code := impl.Overwritten(list, e.Dot); over == is || code != impl.OK {
			t.Fatal("Overwritten", short(list), e.Dot, over, code, "a sibling:", is)
		}
		if is {
			many--
		}
	}
	if many != 0 {
		t.Fatal("siblings that are no events", short(list), many)
	}
}

// knownJust asks of each event of the list, of whatever key, whether an event of the key, or its context, knows it.
func knownJust(t *testing.T, list []deed) {
	t.Helper()
	for _, key := range keysOfDeeds(list) {
		o, _ := impl.ModelObj(list, key)
		for _, e := range list {
			known := slices.ContainsFunc(list, func(other deed) bool {
				return other.Key == key && (other.Ctx[e.Dot.Node] >= e.Dot.N || other.Dot.Node == e.Dot.Node && other.Dot.N >= e.Dot.N)
			})
			if has, code := impl.VvHas(o.Seen, e.Dot); has != known || code != impl.OK {
				t.Fatal("Seen of", key, short(list), o.Seen, e.Dot, has, code)
			}
		}
	}
}

func TestEventsOneByOne(t *testing.T) {
	eachRightList(func(list []deed) { atOnce(t, list, false) }) // their beginnings are among them
	for _, list := range append(rightDeeds(), drawnDeeds()...) {
		atOnce(t, list, len(keysOfDeeds(list)) < 10)
	}
}

func TestAnEventIsASiblingJustIfNoneKnowsIt(t *testing.T) {
	over, not := 0, 0
	count := func(list []deed) {
		for i := range list {
			if knownByAnother(list, i) {
				over++
			} else {
				not++
			}
		}
	}
	eachRightList(func(list []deed) { siblingsJust(t, list) })
	for _, list := range append(rightDeeds(), drawnDeeds()...) {
		siblingsJust(t, list)
		count(list)
	}
	if over < 500 || not < 500 { // else it would show little
		t.Error(over, not)
	}
}

func TestSeenIsWhatTheKeysEventsKnow(t *testing.T) {
	eachRightList(func(list []deed) { knownJust(t, list) })
	for _, list := range append(rightDeeds(), drawnDeeds()...) {
		knownJust(t, list)
	}
}

// Events that know none: each of them stays, whoever wrote it and whatever stands ahead.
func TestEventsThatKnowNoneStandBeside(t *testing.T) {
	for seed := range uint32(100) {
		h := history{state: seed}
		list := h.deeds(1+h.draw(100), "a", "b")
		for i := range list {
			list[i].Ctx = vv{}
		}
		atOnce(t, list, false)
		siblingsJust(t, list)
		for _, e := range list {
			if over, code := impl.Overwritten(list, e.Dot); over || code != impl.OK {
				t.Fatal("Overwritten", e.Dot, over, code)
			}
		}
		a, _ := impl.ModelObj(list, "a")
		b, _ := impl.ModelObj(list, "b")
		if len(a.Sibs)+len(b.Sibs) != len(list) {
			t.Fatal("siblings", len(a.Sibs), len(b.Sibs), "of", len(list))
		}
	}
}

// Events that know all ahead: the last one of each key is there alone.
func TestEventsThatKnowAllAreAlone(t *testing.T) {
	for keys := 1; keys <= 12; keys++ {
		list := knowing(mostDeeds, keys)
		atOnce(t, list, false)
		for i, e := range list {
			o, _ := impl.ModelObj(list[:i+1], e.Key)
			if len(o.Sibs) != 1 || o.Sibs[0] != (sibling{Dot: e.Dot, Value: e.Value}) {
				t.Fatal("ModelObj", keys, e, o)
			}
		}
	}
}

// otherwise draws another order of a list that is right as well: each event behind its node's last one, and behind all
// that it knows.
func (h *history) otherwise(list []deed) []deed {
	var drawn []deed
	left := slices.Clone(list)
	for len(left) > 0 {
		var ready []int
		for i, e := range left {
			if deedsRight(append(slices.Clone(drawn), e)) {
				ready = append(ready, i)
			}
		}
		i := ready[h.draw(len(ready))]
		drawn = append(drawn, left[i])
		left = slices.Delete(left, i, i+1)
	}
	return drawn
}

// What events make does not hang on the order in which they were written, as long as none stands ahead of what it knows.
func TestEventsInAnotherOrder(t *testing.T) {
	others := 0
	for seed := range uint32(80) {
		h := history{state: seed}
		list := h.deeds(2+h.draw(24), "a", "b", "c")
		for range 4 {
			other := h.otherwise(list)
			if !slices.Equal(other, list) {
				others++
			}
			allAsTold(t, other)
			for _, key := range []string{"a", "b", "c"} {
				got, code := impl.ModelObj(other, key)
				if want := oneByOne(t, list, key); !alike(got, want) || code != impl.OK {
					t.Fatal("ModelObj", other, key, got, code, "not", want)
				}
				if back := oneByOne(t, other, key); !alike(back, got) {
					t.Fatal("one by one", other, key, back, "not", got)
				}
			}
			for _, e := range list {
				one, _ := impl.Overwritten(list, e.Dot)
				if two, code := impl.Overwritten(other, e.Dot); one != two || code != impl.OK {
					t.Fatal("Overwritten", e.Dot, one, two, code)
				}
			}
		}
	}
	if others < 200 { // else it would show little
		t.Error(others)
	}
}

// Replicas that wrote and were joined in between make, joined in the end, what all events make at once: whether a writer
// knew nothing, or what some replica knew.
func TestReplicasJoinedAreTheModel(t *testing.T) {
	for seed := range uint32(100) {
		h := history{state: seed}
		var list []deed
		for range 40 {
			node := h.draw(3)
			if h.draw(3) == 0 {
				h.replicas[node] = join(t, h.replicas[node], h.replicas[h.draw(3)])
				continue
			}
			h.write(t, node)
			e := h.events[len(h.events)-1]
			list = append(list, deed{Dot: e.Dot, Key: "k", Value: e.Value, Dead: e.Dead, Ctx: e.ctx})
		}
		all := join(t, join(t, h.replicas[0], h.replicas[1]), h.replicas[2])
		if got := modelAsTold(t, list, "k"); !alike(got, all) {
			t.Fatal("seed", seed, "ModelObj", got, "not", all)
		}
	}
}

// A run of one node to which nothing is joined, and the events that it wrote.
type aloneRun struct {
	history
	node
	list []deed
}

func (r *aloneRun) drawContext() vv {
	var ctx vv
	switch r.draw(4) {
	case 1:
		o, _ := impl.ObjAt(r.node, runKeys[r.draw(len(runKeys))])
		ctx = o.Seen
	case 2:
		ctx[r.Id] = r.Count
	case 3:
		ctx[r.Id] = r.draw(r.Count + 1)
	}
	return ctx
}

func (r *aloneRun) put(t *testing.T) {
	t.Helper()
	e := deed{Key: runKeys[r.draw(len(runKeys))], Value: r.draw(1000), Ctx: r.drawContext()}
	if r.draw(4) == 0 {
		e.Value, e.Dead = 0, true
	}
	x, d, code := impl.PutNode(r.node, e.Key, e.Ctx, e.Value, e.Dead)
	if code != impl.OK {
		t.Fatal("PutNode", code)
	}
	e.Dot = d
	r.node, r.list = x, append(r.list, e)
}

// crash loses the last events, if their lines were not sure.
func (r *aloneRun) crash(t *testing.T) {
	t.Helper()
	x, code := impl.CrashNode(r.node, r.draw(4), r.draw(9))
	if code != impl.OK {
		t.Fatal("CrashNode", code)
	}
	r.node, r.list = x, r.list[:x.Count]
}

func (r *aloneRun) step(t *testing.T) {
	t.Helper()
	switch r.draw(8) {
	case 0:
		r.node, _ = impl.SyncNode(r.node)
	case 1:
		r.crash(t)
	case 2: // a feed that is cut off takes no event away
		r.node, _ = impl.CutFeed(r.node, r.draw(r.Count+1))
	default:
		r.put(t)
	}
}

func (r *aloneRun) check(t *testing.T) {
	t.Helper()
	if !impl.EventsOK(r.list) {
		t.Fatal("EventsOK of what a node wrote", r.list)
	}
	if keys, code := impl.ModelKeys(r.list); !slices.Equal(keys, keysTold(r.node)) || code != impl.OK {
		t.Fatal("ModelKeys", keys, code, "not", keysTold(r.node))
	}
	for _, key := range runKeys {
		want, _ := impl.ObjAt(r.node, key)
		if got, code := impl.ModelObj(r.list, key); !alike(got, want) || code != impl.OK {
			t.Fatal("ModelObj", r.list, key, got, code, "not what the node has:", want)
		}
	}
	for _, c := range r.node.Cells {
		for _, s := range c.Obj.Sibs {
			if over, code := impl.Overwritten(r.list, s.Dot); over || code != impl.OK {
				t.Fatal("Overwritten, though the node has it", s, over, code)
			}
		}
	}
}

func TestWhatANodeAloneWrote(t *testing.T) {
	for seed := range uint32(60) {
		r := aloneRun{history: history{state: seed}, node: node{Id: int(seed) % 3}}
		r.check(t)
		for range 40 {
			r.step(t)
			r.check(t)
		}
	}
}

// A node that writes as many events as a list may have, and one more.
func TestANodeThatWroteAllEvents(t *testing.T) {
	for id := range 3 {
		r := aloneRun{history: history{state: uint32(id)}, node: node{Id: id}}
		for range mostDeeds {
			r.put(t)
		}
		r.check(t)
		r.put(t)
		if impl.EventsOK(r.list) {
			t.Error("EventsOK of too many")
		}
		if o, code := impl.ModelObj(r.list, runKeys[0]); !isZero(o) || code != impl.ErrBad {
			t.Error("ModelObj of too many", o, code)
		}
	}
}

// As many siblings as a key may have, put at a node by events that know none.
func TestANodeThatWroteAllSiblings(t *testing.T) {
	x := node{Id: 1}
	list := unknowing(1, mostDeeds, "k")
	for _, e := range list {
		y, d, code := impl.PutNode(x, e.Key, e.Ctx, e.Value, e.Dead)
		if d != e.Dot || code != impl.OK {
			t.Fatal("PutNode", d, code)
		}
		x = y
	}
	want, _ := impl.ObjAt(x, "k")
	if got, code := impl.ModelObj(list, "k"); len(got.Sibs) != impl.MaxSibs || !alike(got, want) || code != impl.OK {
		t.Error("ModelObj", len(got.Sibs), code)
	}
}
