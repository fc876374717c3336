package tests

import (
	"math"
	"slices"
	"strings"
	"testing"

	"loop.example/g00535/impl"
)

func TestModelConstants(t *testing.T) {
	if impl.MaxEvents != mostDeeds || impl.MaxEvents > impl.MaxSibs {
		t.Error(impl.MaxEvents, impl.MaxSibs)
	}
}

// unknowing has so many events of a node, of one key, that know none.
func unknowing(node, many int, key string) []deed {
	var list []deed
	for n := range many {
		list = append(list, deed{Dot: dot{Node: node, N: n + 1}, Key: key, Value: n % 1000})
	}
	return list
}

// knowing has so many events, in turn of all nodes and of so many keys, each of which knows all ahead.
func knowing(many, keys int) []deed {
	var list []deed
	for i := range many {
		e := deed{Dot: dot{Node: i % 3, N: i/3 + 1}, Key: keyNumber(i % keys), Value: 999 - i}
		for node := range 3 {
			e.Ctx[node] = countTold(list, node)
		}
		list = append(list, e)
	}
	return list
}

// eachItsOwn has so many events of so many keys, the last keys first.
func eachItsOwn(node, many int) []deed {
	list := unknowing(node, many, "k")
	for i := range list {
		list[i].Key = keyNumber(many - 1 - i)
	}
	return list
}

// Some events of all nodes and of two keys: that know none, some of their own key, some of others, and dead ones.
func someDeeds() []deed {
	return deedsIn("a1 a 5 0.0.0", "b1 a 6 0.0.0", "b2 b 7 1.1.0", "c1 a 8 1.0.0", "a2 a ! 0.1.0", "c2 b ! 0.2.1", "a3 b 0 0.0.0", "a4 a 999 2.0.1", "b3 a 5 0.0.0")
}

// deeds draws a right list. What an event knows is nothing, all, some of all nodes, of one node alone, or just its own
// node's.
func (h *history) deeds(many int, keys ...string) []deed {
	var list []deed
	for range many {
		node := h.draw(3)
		e := deed{Dot: dot{Node: node, N: countTold(list, node) + 1}, Key: keys[h.draw(len(keys))], Value: h.draw(1000)}
		if h.draw(4) == 0 {
			e.Value, e.Dead = 0, true
		}
		kind, one := h.draw(5), h.draw(3)
		for k := range 3 {
			all := countTold(list, k)
			switch {
			case kind == 1, kind == 2 && k == node:
				e.Ctx[k] = all
			case kind == 3, kind == 4 && k == one:
				e.Ctx[k] = h.draw(all + 1)
			}
		}
		list = append(list, e)
	}
	return list
}

func drawnDeeds() [][]deed {
	var all [][]deed
	for seed := range uint32(60) {
		h := history{state: seed}
		all = append(all, h.deeds(1+h.draw(30), "a"), h.deeds(1+h.draw(40), "a", "b"), h.deeds(1+h.draw(100), runKeys...))
	}
	h := history{state: 77}
	return append(all, h.deeds(mostDeeds, "a"), h.deeds(mostDeeds, "a", "zzzzzz"), h.deeds(mostDeeds, storeKeys...))
}

func rightDeeds() [][]deed {
	all := [][]deed{
		nil, {},
		deedsIn("a1 a 0 0.0.0"), deedsIn("b1 z 999 0.0.0"), deedsIn("c1 zzzzzz ! 0.0.0"),
		deedsIn("c1 a 1 0.0.0", "b1 a 2 0.0.0", "a1 a 3 0.0.0"),
		deedsIn("a1 a 1 0.0.0", "a2 a 2 1.0.0", "a3 a 3 2.0.0"),
		deedsIn("a1 a 1 0.0.0", "a2 a 2 0.0.0", "a3 a 3 1.0.0"),
		deedsIn("a1 a ! 0.0.0", "a2 a ! 0.0.0", "a3 a ! 2.0.0"),
		deedsIn("a1 a 1 0.0.0", "b1 b 1 1.0.0", "b2 a 1 0.1.0", "c1 b 1 1.2.0"),
		deedsIn("a1 b 5 0.0.0", "a2 a 5 1.0.0", "a3 b 5 2.0.0"),
		someDeeds(),
		unknowing(0, mostDeeds-1, "k"), unknowing(0, mostDeeds, "k"), unknowing(2, mostDeeds, "zzzzzz"),
		eachItsOwn(1, mostDeeds-1), eachItsOwn(1, mostDeeds),
		knowing(mostDeeds-1, 1), knowing(mostDeeds, 1), knowing(mostDeeds, 2), knowing(mostDeeds, 7), knowing(mostDeeds, mostDeeds),
		slices.Concat(unknowing(0, 40, "k"), unknowing(1, 40, "k"), unknowing(2, 20, "k")),
		slices.Concat(unknowing(2, 40, "k"), unknowing(0, 20, "l"), unknowing(1, 40, "k")),
	}
	for _, key := range rightKeys {
		all = append(all, unknowing(1, 3, key))
	}
	return all
}

// An event that is not right by itself, each of its parts in turn.
func wrongDeedsAlone() []deed {
	var all []deed
	for _, d := range wrongDots {
		all = append(all, deed{Dot: d, Key: "a"})
	}
	for _, node := range noNodes {
		all = append(all, deed{Dot: dot{Node: node, N: 1}, Key: "a"})
	}
	for _, n := range []int{math.MinInt, -1 << 32, -1, 0, impl.MaxDot + 1, 1 << 32, 1<<32 + 1, math.MaxInt} {
		all = append(all, deed{Dot: dot{Node: 1, N: n}, Key: "a"})
	}
	for _, key := range slices.Concat(wrongKeys, longKeys) {
		all = append(all, deed{Dot: dot{Node: 0, N: 1}, Key: key})
	}
	for _, value := range []int{math.MinInt, -1 << 32, -1, impl.MaxValue + 1, 1 << 32, math.MaxInt} {
		all = append(all, deed{Dot: dot{Node: 0, N: 1}, Key: "a", Value: value}, deed{Dot: dot{Node: 0, N: 1}, Key: "a", Value: value, Dead: true})
	}
	for _, value := range []int{1, 5, impl.MaxValue} {
		all = append(all, deed{Dot: dot{Node: 0, N: 1}, Key: "a", Value: value, Dead: true})
	}
	for _, ctx := range wrongVvs() {
		all = append(all, deed{Dot: dot{Node: 0, N: 1}, Key: "a", Ctx: ctx})
	}
	for _, n := range wrongNumbers {
		for node := range 3 {
			e := deed{Dot: dot{Node: 0, N: 1}, Key: "a"}
			e.Ctx[node] = n
			all = append(all, e)
		}
	}
	return all
}

// Lists with such an event: alone, first, last and in the middle, so that nothing else is wrong.
func wrongPartsOfDeeds() [][]deed {
	var all [][]deed
	for _, e := range wrongDeedsAlone() {
		all = append(all, []deed{e}, append(deedsIn("b1 b 1 0.0.0", "c1 b 1 0.0.0"), e), append([]deed{e}, deedsIn("b1 b 1 0.0.0", "c1 b 1 0.0.0")...),
			append(append(deedsIn("b1 b 1 0.0.0"), e), deedsIn("c1 b 1 0.1.0")...))
	}
	return all
}

// Events that are right by themselves, but not their node's next one, or twice, or behind a gap.
func wrongOrdersOfDeeds() [][]deed {
	all := [][]deed{
		deedsIn("a2 a 1 0.0.0"), deedsIn("b9999 a 1 0.0.0"), deedsIn("c100 a 1 0.0.0"),
		deedsIn("a1 a 1 0.0.0", "a1 a 1 0.0.0"), deedsIn("a1 a 1 0.0.0", "a1 b 2 0.0.0"), deedsIn("a1 a 1 0.0.0", "a3 a 1 0.0.0"),
		deedsIn("a1 a 1 0.0.0", "b1 a 1 0.0.0", "a1 a 1 0.0.0"), deedsIn("a1 a 1 0.0.0", "b2 a 1 0.0.0"), deedsIn("a2 a 1 0.0.0", "a1 a 1 0.0.0"),
		deedsIn("a1 a 1 0.0.0", "a2 a 1 0.0.0", "a2 a 1 0.0.0"), deedsIn("a1 a 1 0.0.0", "a2 a 1 0.0.0", "a1 a 1 0.0.0"),
		deedsIn("a1 a 1 0.0.0", "a2 a 1 0.0.0", "a4 a 1 0.0.0", "a3 a 1 0.0.0"), deedsIn("a1 a 1 0.0.0", "b1 a 1 0.0.0", "c2 a 1 0.0.0"),
		append(unknowing(0, 98, "k"), deedsIn("a100 k 1 0.0.0")...), append(unknowing(0, 99, "k"), deedsIn("a99 k 1 0.0.0")...),
	}
	list := someDeeds()
	for i := range list {
		if !slices.ContainsFunc(list[i+1:], func(e deed) bool { return e.Dot.Node == list[i].Dot.Node }) {
			continue // without the last ones of a node a list may be right
		}
		all = append(all, slices.Concat(list[:i], list[i+1:]), slices.Insert(slices.Clone(list), i, list[i]), append(slices.Clone(list), list[i]))
	}
	return all
}

// Events that know themselves, later ones of the list, or what is in no event.
func wrongContextsOfDeeds() [][]deed {
	all := [][]deed{
		deedsIn("a1 a 1 1.0.0"), deedsIn("b1 a 1 0.1.0"), deedsIn("c1 a 1 0.0.1"), deedsIn("a1 a ! 1.0.0"),
		deedsIn("a1 a 1 0.1.0"), deedsIn("a1 a 1 0.0.1"), deedsIn("a1 a 1 0.0.9999"), deedsIn("a1 a 1 9999.9999.9999"),
		deedsIn("a1 a 1 0.0.0", "a2 a 1 2.0.0"), deedsIn("a1 a 1 0.0.0", "b1 a 1 2.0.0"), deedsIn("a1 a 1 0.0.0", "b1 a 1 1.1.0"),
		deedsIn("a1 a 1 0.1.0", "b1 a 1 0.0.0"), deedsIn("a1 b 1 0.1.0", "b1 a 1 0.0.0"), deedsIn("a1 a 1 0.0.0", "a2 a 1 1.1.0", "b1 a 1 0.0.0"),
		deedsIn("a1 a 1 2.0.0", "a2 a 1 0.0.0"), deedsIn("a1 a 1 0.0.0", "b1 a 1 1.0.1", "c1 a 1 0.0.0"),
		append(unknowing(0, 99, "k"), deedsIn("a100 k 1 100.0.0")...), append(unknowing(0, 99, "k"), deedsIn("b1 k 1 100.0.0")...),
	}
	for _, list := range [][]deed{someDeeds(), knowing(12, 2), knowing(100, 1)} {
		for i := range list {
			for node := range 3 {
				more := slices.Clone(list)
				more[i].Ctx[node] = countTold(list[:i], node) + 1
				all = append(all, more)
			}
			if i > 12 {
				break
			}
		}
	}
	return all
}

// Events each of which is right where it stands, but too many.
func tooManyDeeds() [][]deed {
	return [][]deed{unknowing(0, mostDeeds+1, "k"), unknowing(2, mostDeeds+2, "k"), eachItsOwn(1, mostDeeds+1), knowing(mostDeeds+1, 1), knowing(300, 9),
		slices.Concat(unknowing(0, 40, "k"), unknowing(1, 40, "k"), unknowing(2, 21, "k")), unknowing(0, impl.MaxList, "k")}
}

// Lists that are too long, whatever they have.
func longDeeds() [][]deed {
	return [][]deed{unknowing(0, impl.MaxList+1, "k"), make([]deed, impl.MaxList+1), make([]deed, 2*impl.MaxList)}
}

// Those that are too long are not among them.
func wrongDeeds() [][]deed {
	return slices.Concat(wrongPartsOfDeeds(), wrongOrdersOfDeeds(), wrongContextsOfDeeds(), tooManyDeeds(),
		[][]deed{make([]deed, 1), make([]deed, mostDeeds), make([]deed, mostDeeds+1), make([]deed, impl.MaxList)})
}

func TestEventsRightAndWrong(t *testing.T) {
	for i, list := range append(rightDeeds(), drawnDeeds()...) {
		if !deedsRight(list) || !impl.EventsOK(list) {
			t.Error("EventsOK of right events", i, short(list))
		}
	}
	for i, list := range append(wrongDeeds(), longDeeds()...) {
		if deedsRight(list) || impl.EventsOK(list) {
			t.Error("EventsOK of wrong events", i, short(list))
		}
	}
}

// Of events that are not right all calls say so, whatever is asked of them, and nothing else.
func TestWrongEventsAreBad(t *testing.T) {
	for i, list := range append(wrongDeeds(), longDeeds()...) {
		want := impl.ErrBad
		if len(list) > impl.MaxList {
			want = impl.ErrLong
		}
		for _, d := range []dot{{Node: 0, N: 1}, {Node: 1, N: 1}, {Node: 2, N: impl.MaxDot}, {}, {Node: -1, N: 1}} {
			if over, code := impl.Overwritten(list, d); over || code != want {
				t.Fatal("Overwritten", i, d, over, code)
			}
		}
		for _, key := range []string{"a", "b", "k", "none", "", "A", strings.Repeat("a", impl.MaxText)} {
			if o, code := impl.ModelObj(list, key); !isZero(o) || code != want {
				t.Fatal("ModelObj", i, short(key), o, code)
			}
		}
		if keys, code := impl.ModelKeys(list); len(keys) > 0 || code != want {
			t.Fatal("ModelKeys", i, keys, code)
		}
	}
}

// Events of some dots, keys and contexts.
func smallDeeds() []deed {
	var each []deed
	for _, d := range []string{"a0", "a1", "a2", "b1", "c1"} {
		for _, key := range []string{"a", "b"} {
			for _, ctx := range []string{"0.0.0", "1.0.0", "2.0.0", "0.1.0", "1.1.0", "0.0.1"} {
				each = append(each, deedsIn(d+" "+key+" 5 "+ctx)...)
			}
		}
	}
	return append(each, deedsIn("a1 a ! 0.0.0", "a1 A 5 0.0.0", "b1 a 1000 0.0.0", "b1 b -1 0.0.0", "b2 b 0 0.1.0")...)
}

// Each list of up to two of them, and each of three whose first two are right, right and wrong ones.
func TestEachSmallListOfEvents(t *testing.T) {
	each, right := smallDeeds(), 0
	lists := [][]deed{nil}
	for i := 0; i < len(lists); i++ {
		list := lists[i]
		if eventsAsTold(t, list) {
			right++
			allAsTold(t, list)
		}
		for _, e := range each {
			if len(list) < 2 || len(list) == 2 && deedsRight(list) {
				lists = append(lists, append(slices.Clone(list), e))
			}
		}
	}
	if right < 500 { // else it would show little
		t.Error(right)
	}
}

// Each right list of up to four events of two nodes and two keys.
func eachRightList(ask func(list []deed)) {
	var walk func(list []deed)
	walk = func(list []deed) {
		ask(list)
		if len(list) == 4 {
			return
		}
		ahead := [2]int{countTold(list, 0), countTold(list, 1)}
		for node := range 2 {
			for _, key := range []string{"a", "b"} {
				for first := range ahead[0] + 1 {
					for second := range ahead[1] + 1 {
						e := deed{Dot: dot{Node: node, N: ahead[node] + 1}, Key: key, Value: 10*node + ahead[node], Ctx: vv{first, second, 0}}
						if (first+second+node+len(list))%3 == 0 {
							e.Value, e.Dead = 0, true
						}
						walk(append(slices.Clone(list), e))
					}
				}
			}
		}
	}
	walk(nil)
}

func TestAllCallsOfEvents(t *testing.T) {
	eachRightList(func(list []deed) { allAsTold(t, list) })
	for _, list := range slices.Concat(rightDeeds(), drawnDeeds(), wrongDeeds(), longDeeds()) {
		allAsTold(t, list)
	}
}

func TestModelByHand(t *testing.T) {
	list := someDeeds()
	for _, c := range []struct {
		many int
		key  string
		want string
	}{
		{0, "a", "0.0.0"}, {0, "b", "0.0.0"},
		{1, "a", "1.0.0|a1=5"}, {1, "b", "0.0.0"},
		{2, "a", "1.1.0|a1=5|b1=6"},
		{3, "a", "1.1.0|a1=5|b1=6"}, {3, "b", "1.2.0|b2=7"}, // b2 knew two of another key
		{4, "a", "1.1.1|b1=6|c1=8"},
		{5, "a", "2.1.1|a2!|c1=8"}, // a2 knew b1, and not a1 of its own node
		{6, "a", "2.1.1|a2!|c1=8"}, {6, "b", "1.2.2|c2!"},
		{7, "b", "3.2.2|a3=0|c2!"}, // a3 knew none
		{8, "a", "4.1.1|a4=999"},
		{9, "a", "4.3.1|a4=999|b3=5"}, {9, "b", "3.2.2|a3=0|c2!"},
		{9, "c", "0.0.0"}, {9, "aa", "0.0.0"}, {9, "zzzzzz", "0.0.0"},
	} {
		o, code := impl.ModelObj(list[:c.many], c.key)
		if !alike(o, objIn(c.want)) || code != impl.OK {
			t.Error("ModelObj", c.many, c.key, o, code, "not", c.want)
		}
	}
	for _, c := range []struct {
		list []string
		want string
	}{
		// events that know none stand beside each other, even of one node
		{[]string{"a1 a 1 0.0.0", "a2 a 2 0.0.0", "a3 a 3 0.0.0"}, "3.0.0|a1=1|a2=2|a3=3"},
		{[]string{"c1 a 1 0.0.0", "b1 a 2 0.0.0", "a1 a 3 0.0.0"}, "1.1.1|a1=3|b1=2|c1=1"},
		{[]string{"a1 a ! 0.0.0", "a2 a ! 0.0.0"}, "2.0.0|a1!|a2!"},
		{[]string{"a1 a 1 0.0.0", "a2 a ! 0.0.0"}, "2.0.0|a1=1|a2!"},
		// one that knows some of its node leaves the later ones
		{[]string{"a1 a 1 0.0.0", "a2 a 2 0.0.0", "a3 a 3 1.0.0"}, "3.0.0|a2=2|a3=3"},
		// what was overwritten by one that was overwritten does not come back
		{[]string{"a1 a 1 0.0.0", "b1 a 2 1.0.0", "c1 a 3 0.1.0"}, "1.1.1|c1=3"},
		// known of another key's event alone: it stays, and Seen is the key's own
		{[]string{"a1 a 1 0.0.0", "b1 b 2 1.0.0"}, "1.0.0|a1=1"},
		{[]string{"a1 b 1 0.0.0", "b1 a 2 1.0.0"}, "1.1.0|b1=2"},
		{[]string{"a1 b 1 0.0.0", "a2 a 2 0.0.0"}, "2.0.0|a2=2"},
		{[]string{"a1 a 1 0.0.0", "a2 b 2 1.0.0", "b1 a 3 2.0.0"}, "2.1.0|b1=3"},
		{[]string{"a1 a ! 0.0.0", "a2 a 7 1.0.0"}, "2.0.0|a2=7"},
		{[]string{"a1 a 7 0.0.0", "a2 a ! 1.0.0"}, "2.0.0|a2!"},
		// three that know the same two: the two go, the three stay
		{[]string{"a1 a 1 0.0.0", "b1 a 2 0.0.0", "a2 a 3 1.1.0", "b2 a 4 1.1.0", "c1 a 5 1.1.0"}, "2.2.1|a2=3|b2=4|c1=5"},
	} {
		if o, code := impl.ModelObj(deedsIn(c.list...), "a"); !alike(o, objIn(c.want)) || code != impl.OK {
			t.Error("ModelObj", c.list, o, code, "not", c.want)
		}
	}
}

func TestOverwrittenByHand(t *testing.T) {
	list := someDeeds()
	for _, c := range []struct {
		many int
		dot  string
		over bool
		code int
	}{
		{1, "a1", false, impl.OK}, {3, "a1", false, impl.OK}, {3, "b1", false, impl.OK}, // another key's event knows them
		{4, "a1", true, impl.OK}, {4, "b1", false, impl.OK}, {4, "c1", false, impl.OK},
		{5, "b1", true, impl.OK}, {5, "a1", true, impl.OK}, {5, "a2", false, impl.OK}, {5, "b2", false, impl.OK},
		{6, "b2", true, impl.OK}, {7, "c2", false, impl.OK}, {7, "a3", false, impl.OK}, {7, "c1", false, impl.OK},
		{8, "c1", true, impl.OK}, {8, "a2", true, impl.OK}, {8, "a3", false, impl.OK}, {8, "a4", false, impl.OK},
		{9, "b3", false, impl.OK}, {9, "a4", false, impl.OK}, {9, "b1", true, impl.OK},
		{0, "a1", false, impl.ErrNone}, {3, "c1", false, impl.ErrNone}, {3, "a2", false, impl.ErrNone}, {9, "a5", false, impl.ErrNone}, {9, "c3", false, impl.ErrNone},
		{9, "a9999", false, impl.ErrNone}, {0, "c9999", false, impl.ErrNone},
		{9, "a0", false, impl.ErrBad}, {0, "a0", false, impl.ErrBad}, {9, "a10000", false, impl.ErrBad}, {9, "d1", false, impl.ErrBad}, {0, "d1", false, impl.ErrBad},
	} {
		if over, code := impl.Overwritten(list[:c.many], dotIn(c.dot)); over != c.over || code != c.code {
			t.Error("Overwritten", c.many, c.dot, over, code)
		}
	}
}

// Dots that are none, and dots of no event, whatever the list is.
func TestOverwrittenOfOtherDots(t *testing.T) {
	for _, list := range append(rightDeeds(), drawnDeeds()[:20]...) {
		for _, d := range wrongDots {
			if over, code := impl.Overwritten(list, d); over || code != impl.ErrBad {
				t.Fatal("Overwritten", short(list), d, over, code)
			}
		}
		for node := range 3 {
			for _, n := range []int{countTold(list, node) + 1, 101, impl.MaxDot - 1, impl.MaxDot} {
				if over, code := impl.Overwritten(list, dot{Node: node, N: n}); over || code != impl.ErrNone {
					t.Fatal("Overwritten", short(list), node, n, over, code)
				}
			}
		}
		for _, node := range noNodes {
			if over, code := impl.Overwritten(list, dot{Node: node, N: 1}); over || code != impl.ErrBad {
				t.Fatal("Overwritten", short(list), node, over, code)
			}
		}
	}
}

// Keys of which there is no event, that are none, and that are too long.
func TestModelOfOtherKeys(t *testing.T) {
	for _, list := range append(rightDeeds(), drawnDeeds()[:20]...) {
		for _, key := range []string{"none", "aaaaaa", "kk", "y"} {
			if o, code := impl.ModelObj(list, key); !isZero(o) || code != impl.OK {
				t.Fatal("ModelObj", short(list), key, o, code)
			}
		}
		for _, key := range wrongKeys {
			if o, code := impl.ModelObj(list, key); !isZero(o) || code != impl.ErrKey {
				t.Fatal("ModelObj", short(list), short(key), o, code)
			}
		}
		for _, key := range longKeys {
			if o, code := impl.ModelObj(list, key); !isZero(o) || code != impl.ErrLong {
				t.Fatal("ModelObj", short(list), len(key), o, code)
			}
		}
	}
}

// As many siblings as an object may have: all events of a list, knowing none, of one node or of all of them.
func TestModelOfManySiblings(t *testing.T) {
	for _, c := range []struct {
		list []deed
		seen vv
	}{
		{unknowing(0, 99, "k"), vv{99, 0, 0}},
		{unknowing(0, 100, "k"), vv{100, 0, 0}},
		{unknowing(2, 100, "k"), vv{0, 0, 100}},
		{slices.Concat(unknowing(2, 20, "k"), unknowing(1, 40, "k"), unknowing(0, 40, "k")), vv{40, 40, 20}},
	} {
		o, code := impl.ModelObj(c.list, "k")
		if len(o.Sibs) != len(c.list) || o.Seen != c.seen || code != impl.OK || !impl.ObjOK(o) {
			t.Error("ModelObj", len(o.Sibs), o.Seen, code)
		}
	}
	// the last one knows all ahead, then all but one
	list := unknowing(0, 100, "k")
	list = append(list[:99:99], deed{Dot: dot{Node: 1, N: 1}, Key: "k", Value: 7, Ctx: vv{99, 0, 0}})
	if o, code := impl.ModelObj(list, "k"); !alike(o, objIn("99.1.0|b1=7")) || code != impl.OK {
		t.Error("ModelObj", o, code)
	}
	list[99].Ctx[0] = 98
	if o, code := impl.ModelObj(list, "k"); !alike(o, objIn("99.1.0|a99=98|b1=7")) || code != impl.OK {
		t.Error("ModelObj", o, code)
	}
}

func TestModelKeysByHand(t *testing.T) {
	for _, c := range []struct {
		list []deed
		want string
	}{
		{nil, ""}, {[]deed{}, ""},
		{deedsIn("a1 b 1 0.0.0"), "b"},
		{deedsIn("a1 b ! 0.0.0"), "b"},
		{deedsIn("a1 b 1 0.0.0", "a2 a 1 0.0.0", "a3 b 1 0.0.0"), "a b"},
		{deedsIn("a1 b 1 0.0.0", "b1 a 1 1.0.0", "c1 ab 1 0.0.0", "c2 aa 1 0.0.0", "c3 a ! 1.1.2"), "a aa ab b"},
		{deedsIn("a1 zzzzzz 1 0.0.0", "b1 z 1 0.0.0", "c1 abcdef 1 0.0.0", "a2 b 1 0.0.0"), "abcdef b z zzzzzz"},
		{unknowing(0, 100, "k"), "k"},
		{someDeeds(), "a b"},
	} {
		if keys, code := impl.ModelKeys(c.list); strings.Join(keys, " ") != c.want || code != impl.OK {
			t.Error("ModelKeys", short(c.list), keys, code)
		}
	}
	keys, code := impl.ModelKeys(eachItsOwn(1, 100))
	if len(keys) != 100 || !slices.IsSorted(keys) || keys[0] != "aa" || keys[99] != "dv" || code != impl.OK {
		t.Error("ModelKeys", keys, code)
	}
}

func TestEventTextsByHand(t *testing.T) {
	for _, text := range []string{
		"c1 a 8 1.0.0", "a2 a ! 0.1.0", "a1 a 0 0.0.0", "b7 key 10 3.0.7", "c9999 zzzzzz 999 9999.9999.9999", "a1 abcdef ! 0.0.0",
		// right by themselves, though they could stand in no list
		"a1 a 5 1.0.0", "a1 a 5 7.8.9", "b9999 a 5 0.0.0", "c2 a ! 0.0.9999",
	} {
		if got, code := impl.EventText(deedsIn(text)[0]); got != text || code != impl.OK {
			t.Error("EventText", text, got, code)
		}
	}
	e := deed{Dot: dot{Node: 0, N: 1}, Key: "a"}
	if got, code := impl.EventText(e); got != "a1 a 0 0.0.0" || code != impl.OK {
		t.Error("EventText", got, code)
	}
	e.Dead = true
	if got, code := impl.EventText(e); got != "a1 a ! 0.0.0" || code != impl.OK {
		t.Error("EventText", got, code)
	}
}

// Each part with its least, its greatest and other right ones, each with each.
func TestEachEventText(t *testing.T) {
	texts := map[string]bool{}
	many := 0
	for _, d := range rightDots() {
		for _, key := range rightKeys {
			for _, value := range []int{-1, 0, 1, 9, 10, 99, 100, 998, 999} { // -1 is dead
				for _, ctx := range append(rightVvs()[:30], vv{9999, 9999, 9999}, vv{10, 100, 1000}) {
					e := deed{Dot: d, Key: key, Value: max(value, 0), Dead: value < 0, Ctx: ctx}
					texts[deedTextAsTold(t, e)] = true
					many++
				}
			}
		}
	}
	if len(texts) != many {
		t.Error("events with the same text", len(texts), many)
	}
	for value := range impl.MaxValue + 1 {
		deedTextAsTold(t, deed{Dot: dot{Node: 1, N: 1 + value}, Key: "k", Value: value, Ctx: vv{value, 0, 9 * value}})
	}
}

func TestEventTextsOfWrongEvents(t *testing.T) {
	for i, e := range wrongDeedsAlone() {
		if text, code := impl.EventText(e); text != "" || code != impl.ErrBad {
			t.Error("EventText", i, short(e), short(text), code)
		}
	}
	if text, code := impl.EventText(deed{}); text != "" || code != impl.ErrBad {
		t.Error("EventText", text, code)
	}
	// each part alone of an event that is right but for it, and all of them
	right := deedsIn("b7 key 10 3.0.7")[0]
	for i, spoil := range []func(e *deed){
		func(e *deed) { e.Dot.Node = -1 }, func(e *deed) { e.Dot.Node = 3 }, func(e *deed) { e.Dot.N = 0 }, func(e *deed) { e.Dot.N = 10000 },
		func(e *deed) { e.Key = "" }, func(e *deed) { e.Key = "Key" }, func(e *deed) { e.Key = longKeys[0] }, func(e *deed) { e.Value = -1 },
		func(e *deed) { e.Value = 1000 }, func(e *deed) { e.Dead = true }, func(e *deed) { e.Ctx[0] = -1 }, func(e *deed) { e.Ctx[1] = 10000 },
		func(e *deed) { e.Ctx[2] = math.MinInt }, func(e *deed) { e.Ctx[2] = math.MaxInt },
		func(e *deed) {
			*e = deed{Dot: dot{Node: math.MaxInt, N: math.MinInt}, Value: math.MinInt, Dead: true, Ctx: vv{math.MinInt, math.MaxInt, -1}}
		},
	} {
		e := right
		spoil(&e)
		if text, code := impl.EventText(e); text != "" || code != impl.ErrBad {
			t.Error("EventText", i, short(e), short(text), code)
		}
	}
}

// Which code is told ahead of which: what is long, what is bad, then what is no key, or of no event; beside each of them
// all is zero.
func TestOrderOfCodesOfEvents(t *testing.T) {
	right, bad, long := someDeeds(), deedsIn("a2 a 1 0.0.0"), longDeeds()[0]
	for i, c := range []struct {
		list []deed
		key  string
		dot  dot
		code int // of ModelObj
		then int // of Overwritten
	}{
		{long, longKeys[0], dot{}, impl.ErrLong, impl.ErrLong},
		{long, "A", dot{Node: 2, N: 9}, impl.ErrLong, impl.ErrLong},
		{long, "k", dot{Node: 0, N: 1}, impl.ErrLong, impl.ErrLong},
		{longDeeds()[1], "A", dot{Node: -1, N: 1}, impl.ErrLong, impl.ErrLong},
		{bad, longKeys[0], dot{}, impl.ErrLong, impl.ErrBad},
		{right, longKeys[0], dot{}, impl.ErrLong, impl.ErrBad},
		{nil, longKeys[1], dot{}, impl.ErrLong, impl.ErrBad},
		{tooManyDeeds()[0], longKeys[1], dot{Node: 0, N: 102}, impl.ErrLong, impl.ErrBad},
		{tooManyDeeds()[0], "A", dot{Node: 0, N: 102}, impl.ErrBad, impl.ErrBad},
		{make([]deed, impl.MaxList), "A", dot{Node: 0, N: 1}, impl.ErrBad, impl.ErrBad},
		{bad, "A", dot{Node: 0, N: 3}, impl.ErrBad, impl.ErrBad},
		{bad, "a", dot{Node: 0, N: 2}, impl.ErrBad, impl.ErrBad},
		{bad, strings.Repeat("a", impl.MaxText), dot{Node: 1, N: 1}, impl.ErrBad, impl.ErrBad},
		{right, strings.Repeat("a", impl.MaxText), dot{Node: 1, N: 0}, impl.ErrKey, impl.ErrBad},
		{right, "A", dot{Node: 1, N: 9}, impl.ErrKey, impl.ErrNone},
		{nil, "", dot{Node: 1, N: 1}, impl.ErrKey, impl.ErrNone},
		{unknowing(0, 100, "k"), "", dot{Node: 0, N: 101}, impl.ErrKey, impl.ErrNone},
	} {
		if o, code := impl.ModelObj(c.list, c.key); !isZero(o) || code != c.code {
			t.Error("ModelObj", i, o, code, "not", c.code)
		}
		if over, code := impl.Overwritten(c.list, c.dot); over || code != c.then {
			t.Error("Overwritten", i, over, code, "not", c.then)
		}
	}
}
