package tests

import (
	"runtime"
	"slices"
	"strings"
	"testing"
	"unsafe"

	"loop.example/g00535/impl"
)

// Promise 1, of lists: an argument is as it was behind the call, up to its end and behind it, and an answer shares no
// memory with an argument.

// A lent object has room behind its siblings' end, where a call could write without being seen in the list itself.
type lent struct {
	obj
	room, was []sibling
}

func lend(o obj) lent {
	room := slices.Clip(append(slices.Clone(o.Sibs), live(2, 77, 77), live(2, 78, 78), live(2, 79, 79)))
	return lent{obj{Sibs: room[:len(o.Sibs)], Seen: o.Seen}, room, slices.Clone(room)}
}

func (l lent) untouched() bool { return slices.Equal(l.room, l.was) }

// scribble writes all over a list, and all over the room behind it.
func scribble[T any](list []T, mark T) {
	list = list[:cap(list)]
	for i := range list {
		list[i] = mark
	}
}

// A call on two lent objects answers an object; calls on one of them leave the other out.
type objCall struct {
	name string
	ask  func(a, b obj) obj
}

var objCalls = []objCall{
	{"ObjOK", func(a, b obj) obj { impl.ObjOK(a); return obj{} }},
	{"SameObj", func(a, b obj) obj { impl.SameObj(a, b); return obj{} }},
	{"Covers", func(a, b obj) obj { impl.Covers(a, b); return obj{} }},
	{"Covered", func(a, b obj) obj { impl.Covered(a, b.Seen); return obj{} }},
	{"LiveValues", func(a, b obj) obj { impl.LiveValues(a); return obj{} }},
	{"ObjText", func(a, b obj) obj { impl.ObjText(a); return obj{} }},
	{"ReplyText", func(a, b obj) obj { impl.ReplyText(a); return obj{} }},
	{"MergeAll of one", func(a, b obj) obj { o, _ := impl.MergeAll([]obj{a}); return o }},
	{"MergeAll of one beside nothing", func(a, b obj) obj { o, _ := impl.MergeAll([]obj{{}, a, {}}); return o }},
	{"MergeAll of two", func(a, b obj) obj { o, _ := impl.MergeAll([]obj{a, b}); return o }},
	{"MergeAll of one twice", func(a, b obj) obj { o, _ := impl.MergeAll([]obj{a, b, a}); return o }},
	{"Join", func(a, b obj) obj { o, _ := impl.Join(a, b); return o }},
	{"Write knowing nothing", func(a, b obj) obj { o, _ := impl.Write(a, vv{}, dot{Node: 0, N: impl.MaxDot}, 7, false); return o }},
	{"Write at the end", func(a, b obj) obj { o, _ := impl.Write(a, vv{}, dot{Node: 2, N: impl.MaxDot}, 7, false); return o }},
	{"Write knowing some", func(a, b obj) obj { o, _ := impl.Write(a, vv{1, 1, 0}, dot{Node: 2, N: 101}, 0, true); return o }},
	{"Write knowing as much", func(a, b obj) obj { o, _ := impl.Write(a, b.Seen, dot{Node: 1, N: 101}, 7, false); return o }},
	{"Write of what is known", func(a, b obj) obj { o, _ := impl.Write(a, vv{}, dot{Node: 0, N: 1}, 7, false); return o }},
	{"Write of a wrong value", func(a, b obj) obj { o, _ := impl.Write(a, vv{}, dot{Node: 0, N: 1}, -7, false); return o }},
}

func TestNoCallTouchesAnObject(t *testing.T) {
	objs := append(rightObjs(), wrongObjs()[:20]...)
	for i, x := range objs {
		for k, y := range objs {
			for _, c := range objCalls {
				a, b := lend(x), lend(y)
				answer := c.ask(a.obj, b.obj)
				if !a.untouched() || !b.untouched() {
					t.Fatal(c.name, "changes an argument", i, k)
				}
				kept := slices.Clone(answer.Sibs)
				scribble(a.room, live(1, 11, 11))
				scribble(b.room, live(1, 11, 11))
				if !slices.Equal(answer.Sibs, kept) {
					t.Fatal(c.name, "answers an argument's memory", i, k)
				}
				a, b = lend(x), lend(y)
				answer = c.ask(a.obj, b.obj)
				scribble(answer.Sibs, live(1, 12, 12))
				if !a.untouched() || !b.untouched() {
					t.Fatal(c.name, "answers memory that reaches into an argument's", i, k)
				}
			}
		}
	}
}

// One object handed in twice is no other case.
func TestAnObjectJoinedToItself(t *testing.T) {
	for i, x := range rightObjs() {
		a := lend(x)
		answer, code := impl.Join(a.obj, a.obj)
		if code != impl.OK || !alike(answer, x) || !a.untouched() {
			t.Fatal("Join", i, answer, code)
		}
		scribble(answer.Sibs, live(1, 12, 12))
		if !a.untouched() {
			t.Fatal("Join answers its argument's memory", i)
		}
	}
}

// What is read of one text twice has no memory in common.
func TestReadObjectsShareNothing(t *testing.T) {
	for i, o := range rightObjs() {
		text, code := impl.ObjText(o)
		if code != impl.OK {
			t.Fatal("ObjText", i, code)
		}
		first, _ := impl.ReadObj(text)
		second, _ := impl.ReadObj(text)
		scribble(first.Sibs, live(1, 12, 12))
		third, _ := impl.ReadObj(text)
		if !alike(second, o) || !alike(third, o) {
			t.Fatal("ReadObj", i, second, third)
		}
	}
}

// A lent disk's lists stand in one piece of memory, each with room behind its end: what is written behind the lines that
// are sure may reach those that are not.
type lentDisk struct {
	disk
	room, was []string
}

func lendDisk(d disk) lentDisk {
	room := slices.Clip(slices.Concat(d.Sure, d.Unsure, []string{"1:50:1", "1:51:2", "1:52:3"}))
	sure, all := len(d.Sure), lines(d)
	return lentDisk{disk{Sure: room[:sure], Unsure: room[sure:all]}, room, slices.Clone(room)}
}

func (l lentDisk) untouched() bool { return slices.Equal(l.room, l.was) }

type diskCall struct {
	name string
	ask  func(d disk) disk
}

var diskCalls = []diskCall{
	{"DiskOK", func(d disk) disk { impl.DiskOK(d); return disk{} }},
	{"Append", func(d disk) disk { x, _ := impl.Append(d, "more"); return x }},
	{"Append of nothing", func(d disk) disk { x, _ := impl.Append(d, ""); return x }},
	{"Append of too long a text", func(d disk) disk { x, _ := impl.Append(d, strings.Repeat("x", impl.MaxText+1)); return x }},
	{"Sync", func(d disk) disk { x, _ := impl.Sync(d); return x }},
	{"CrashDisk keeping none", func(d disk) disk { x, _ := impl.CrashDisk(d, 0, 0); return x }},
	{"CrashDisk tearing the first", func(d disk) disk { x, _ := impl.CrashDisk(d, 0, 3); return x }},
	{"CrashDisk keeping one", func(d disk) disk { x, _ := impl.CrashDisk(d, 1, 0); return x }},
	{"CrashDisk tearing the second", func(d disk) disk { x, _ := impl.CrashDisk(d, 1, 3); return x }},
	{"CrashDisk keeping all", func(d disk) disk { x, _ := impl.CrashDisk(d, impl.MaxRecords, impl.MaxText); return x }},
	{"CrashDisk out of range", func(d disk) disk { x, _ := impl.CrashDisk(d, -1, 0); return x }},
	{"Recover", func(d disk) disk { texts, _ := impl.Recover(d); return disk{Sure: texts} }},
}

func copyOfDisk(d disk) disk { return disk{Sure: slices.Clone(d.Sure), Unsure: slices.Clone(d.Unsure)} }

func TestNoCallTouchesADisk(t *testing.T) {
	for i, d := range append(rightDisks(), wrongDisks()...) {
		for _, c := range diskCalls {
			lent := lendDisk(d)
			answer := c.ask(lent.disk)
			if !lent.untouched() {
				t.Fatal(c.name, "changes an argument", i)
			}
			kept := copyOfDisk(answer)
			scribble(lent.room, "scribble")
			if !alikeDisks(answer, kept) {
				t.Fatal(c.name, "answers an argument's memory", i)
			}
			lent = lendDisk(d)
			answer = c.ask(lent.disk)
			scribble(answer.Sure, "scribble")
			if !slices.Equal(answer.Unsure, kept.Unsure) || !lent.untouched() {
				t.Fatal(c.name, "answers sure lines in memory that others have", i)
			}
			answer = c.ask(lent.disk)
			scribble(answer.Unsure, "scribble")
			if !slices.Equal(answer.Sure, kept.Sure) || !lent.untouched() {
				t.Fatal(c.name, "answers lines that are not sure in memory that others have", i)
			}
			if again := c.ask(lent.disk); !alikeDisks(again, kept) {
				t.Fatal(c.name, "answers what was answered ahead", i)
			}
		}
	}
}

// The same list handed in as both of a disk's lists is no other case.
func TestADiskWithOneListTwice(t *testing.T) {
	for _, c := range diskCalls {
		list := sealedLines("ab", "c", "d")
		room := append(slices.Clone(list), "behind", "behind")
		twice := disk{Sure: room[:3], Unsure: room[:3]}
		apart := disk{Sure: slices.Clone(list), Unsure: slices.Clone(list)}
		answer, want := c.ask(twice), c.ask(apart)
		if !alikeDisks(answer, want) {
			t.Error(c.name, answer, want)
		}
		scribble(answer.Sure, "scribble")
		if !slices.Equal(answer.Unsure, want.Unsure) {
			t.Error(c.name, "answers one list twice")
		}
		if !slices.Equal(room, append(slices.Clone(list), "behind", "behind")) {
			t.Error(c.name, "changes an argument")
		}
	}
}

// The memory of a list, up to the end of the room behind it.
type span struct{ from, to uintptr }

func spanOf[T any](list []T) span {
	var one T
	from := uintptr(unsafe.Pointer(unsafe.SliceData(list)))
	return span{from, from + uintptr(cap(list))*unsafe.Sizeof(one)}
}

func apart(spans, others []span) bool {
	for _, a := range spans {
		for _, b := range others {
			if a.from < b.to && b.from < a.to {
				return false
			}
		}
	}
	return true
}

func allApart(spans []span) bool {
	for i := range spans {
		if !apart(spans[:i], spans[i:i+1]) {
			return false
		}
	}
	return true
}

func spansOfNode(x node) []span {
	all := []span{spanOf(x.Cells), spanOf(x.Feed), spanOf(x.Disk.Sure), spanOf(x.Disk.Unsure)}
	for _, c := range x.Cells {
		all = append(all, spanOf(c.Obj.Sibs))
	}
	return all
}

// A lent node has room behind the end of each of its lists, and of those of its cells' objects.
type lentNode struct {
	node
	cells, cellsWere []cell
	feed, feedWas    []entry
	disk             lentDisk
	objs             []lent
}

func lendNode(x node) lentNode {
	l := lentNode{node: x, disk: lendDisk(x.Disk)}
	for _, c := range x.Cells {
		o := lend(c.Obj)
		l.objs = append(l.objs, o)
		l.cells = append(l.cells, cell{Key: c.Key, Obj: o.obj})
	}
	l.cells = slices.Clip(append(l.cells, cell{Key: "behind", Obj: object(vv{7, 7, 7})}, cell{Key: "behind"}))
	l.feed = slices.Clip(append(slices.Clone(x.Feed), entry{Key: "behind"}, entry{Dot: dot{Node: 2, N: 77}}))
	l.cellsWere, l.feedWas = slices.Clone(l.cells), slices.Clone(l.feed)
	l.Cells, l.Feed, l.Disk = l.cells[:len(x.Cells)], l.feed[:len(x.Feed)], l.disk.disk
	return l
}

func (l lentNode) untouched() bool {
	sameCell := func(a, b cell) bool {
		return a.Key == b.Key && a.Obj.Seen == b.Obj.Seen && spanOf(a.Obj.Sibs) == spanOf(b.Obj.Sibs)
	}
	return slices.EqualFunc(l.cells, l.cellsWere, sameCell) && slices.Equal(l.feed, l.feedWas) && l.disk.untouched() &&
		!slices.ContainsFunc(l.objs, func(o lent) bool { return !o.untouched() })
}

// What a call on a node and an object answers: calls leave out what they do not ask or tell.
type nodeAnswer struct {
	node
	obj     obj
	keys    []string
	numbers []int
}

func (a nodeAnswer) spans() []span {
	return append(spansOfNode(a.node), spanOf(a.obj.Sibs), spanOf(a.keys), spanOf(a.numbers))
}

type nodeCall struct {
	name string
	ask  func(x node, o obj) nodeAnswer
}

var nodeCalls = []nodeCall{
	{"NodeOK", func(x node, o obj) nodeAnswer { impl.NodeOK(x); return nodeAnswer{} }},
	{"ObjAt", func(x node, o obj) nodeAnswer { at, _ := impl.ObjAt(x, "b"); return nodeAnswer{obj: at} }},
	{"ObjAt of none", func(x node, o obj) nodeAnswer { at, _ := impl.ObjAt(x, "none"); return nodeAnswer{obj: at} }},
	{"PutNode knowing nothing", func(x node, o obj) nodeAnswer {
		y, _, _ := impl.PutNode(x, "b", vv{}, 7, false)
		return nodeAnswer{node: y}
	}},
	{"PutNode knowing as much", func(x node, o obj) nodeAnswer {
		y, _, _ := impl.PutNode(x, "b", o.Seen, 0, true)
		return nodeAnswer{node: y}
	}},
	{"PutNode of a new key", func(x node, o obj) nodeAnswer {
		y, _, _ := impl.PutNode(x, "aaa", vv{}, 7, false)
		return nodeAnswer{node: y}
	}},
	{"PutNode knowing too much", func(x node, o obj) nodeAnswer {
		y, _, _ := impl.PutNode(x, "b", vv{999, 999, 999}, 7, false)
		return nodeAnswer{node: y}
	}},
	{"PutNode of a wrong value", func(x node, o obj) nodeAnswer {
		y, _, _ := impl.PutNode(x, "b", vv{}, -7, false)
		return nodeAnswer{node: y}
	}},
	{"PutNode of a wrong key", func(x node, o obj) nodeAnswer {
		y, _, _ := impl.PutNode(x, "B", vv{}, 7, false)
		return nodeAnswer{node: y}
	}},
	{"JoinNode", func(x node, o obj) nodeAnswer { y, _, _ := impl.JoinNode(x, "b", o); return nodeAnswer{node: y} }},
	{"JoinNode of a new key", func(x node, o obj) nodeAnswer { y, _, _ := impl.JoinNode(x, "aaa", o); return nodeAnswer{node: y} }},
	{"JoinNode of nothing new", func(x node, o obj) nodeAnswer { y, _, _ := impl.JoinNode(x, "b", obj{}); return nodeAnswer{node: y} }},
	{"JoinNode of a wrong key", func(x node, o obj) nodeAnswer { y, _, _ := impl.JoinNode(x, "B", o); return nodeAnswer{node: y} }},
	{"SyncNode", func(x node, o obj) nodeAnswer { y, _ := impl.SyncNode(x); return nodeAnswer{node: y} }},
	{"CrashNode keeping none", func(x node, o obj) nodeAnswer { y, _ := impl.CrashNode(x, 0, 0); return nodeAnswer{node: y} }},
	{"CrashNode tearing the first", func(x node, o obj) nodeAnswer { y, _ := impl.CrashNode(x, 0, 5); return nodeAnswer{node: y} }},
	{"CrashNode keeping one", func(x node, o obj) nodeAnswer { y, _ := impl.CrashNode(x, 1, 0); return nodeAnswer{node: y} }},
	{"CrashNode keeping all", func(x node, o obj) nodeAnswer {
		y, _ := impl.CrashNode(x, impl.MaxRecords, 0)
		return nodeAnswer{node: y}
	}},
	{"CrashNode out of range", func(x node, o obj) nodeAnswer { y, _ := impl.CrashNode(x, -1, 0); return nodeAnswer{node: y} }},
	{"KeysOf", func(x node, o obj) nodeAnswer { keys, _ := impl.KeysOf(x); return nodeAnswer{keys: keys} }},
	{"Digest", func(x node, o obj) nodeAnswer { sums, _ := impl.Digest(x); return nodeAnswer{numbers: sums} }},
	{"KeysIn", func(x node, o obj) nodeAnswer { keys, _ := impl.KeysIn(x, 3); return nodeAnswer{keys: keys} }},
	{"KeysIn of few", func(x node, o obj) nodeAnswer { keys, _ := impl.KeysIn(x, 0); return nodeAnswer{keys: keys} }},
	{"KeysIn out of range", func(x node, o obj) nodeAnswer { keys, _ := impl.KeysIn(x, impl.Buckets); return nodeAnswer{keys: keys} }},
	{"DiffBuckets", func(x node, o obj) nodeAnswer {
		list, _ := impl.DiffBuckets(x, node{})
		return nodeAnswer{numbers: list}
	}},
	{"DiffBuckets of one node twice", func(x node, o obj) nodeAnswer { list, _ := impl.DiffBuckets(x, x); return nodeAnswer{numbers: list} }},
}

func TestNoCallTouchesANode(t *testing.T) {
	objs := []obj{{}, object(vv{1, 0, 4}, live(0, 1, 5), tomb(2, 4)), object(vv{0, 9, 9}, live(1, 2, 3), live(1, 8, 1), tomb(2, 9)), object(vv{300}),
		object(vv{0, impl.MaxSibs}, run(1, 1, impl.MaxSibs)...), wrongObjs()[0], wrongObjs()[6]}
	for i, x := range append(rightNodes(t), wrongNodes(t)[:60]...) {
		for k, o := range objs {
			for _, c := range nodeCalls {
				a, b := lendNode(x), lend(o)
				answer := c.ask(a.node, b.obj)
				if !a.untouched() || !b.untouched() {
					t.Fatal(c.name, "changes an argument", i, k)
				}
				if !apart(answer.spans(), append(spansOfNode(a.node), spanOf(b.Sibs))) {
					t.Fatal(c.name, "answers an argument's memory", i, k)
				}
				if !allApart(answer.spans()) {
					t.Fatal(c.name, "answers two lists in one memory", i, k)
				}
				runtime.KeepAlive(answer)
			}
		}
	}
}

// The answers of one call do not hang on what was done with those of another.
func TestAnswersOfNodesAreTheirOwn(t *testing.T) {
	x := nodeTold(t, 0, 4, someRecords...)
	o := object(vv{0, 9, 9}, live(1, 2, 3), live(1, 8, 1), tomb(2, 9))
	for _, c := range nodeCalls {
		first, second := c.ask(x, o), c.ask(x, o)
		for _, each := range first.Cells {
			scribble(each.Obj.Sibs, live(1, 12, 12))
		}
		scribble(first.Cells, cell{Key: "scribble"})
		scribble(first.Feed, entry{Key: "scribble"})
		scribble(first.Disk.Sure, "scribble")
		scribble(first.Disk.Unsure, "scribble")
		scribble(first.obj.Sibs, live(1, 12, 12))
		scribble(first.keys, "scribble")
		scribble(first.numbers, -7)
		third := c.ask(x, o)
		if !alikeNodes(second.node, third.node) || !alike(second.obj, third.obj) || !slices.Equal(second.keys, third.keys) ||
			!slices.Equal(second.numbers, third.numbers) {
			t.Fatal(c.name, short(second), short(third))
		}
		if !impl.NodeOK(x) {
			t.Fatal(c.name, "answers its argument's memory")
		}
	}
}

// Two nodes that are held against each other are only read.
func TestNoDiffTouchesItsNodes(t *testing.T) {
	nodes := append(rightNodes(t), wrongNodes(t)[:60]...)
	for i, x := range nodes {
		for k, y := range nodes {
			a, b := lendNode(x), lendNode(y)
			unlike, _ := impl.DiffBuckets(a.node, b.node)
			if !a.untouched() || !b.untouched() {
				t.Fatal("DiffBuckets changes an argument", i, k)
			}
			kept := slices.Clone(unlike)
			scribble(unlike, -7)
			if again, _ := impl.DiffBuckets(a.node, b.node); !slices.Equal(again, kept) {
				t.Fatal("DiffBuckets answers what was answered ahead", i, k)
			}
		}
	}
}

// Records that are handed in are only read.
func TestNoReplayTouchesItsRecords(t *testing.T) {
	for _, records := range [][]string{nil, someRecords, someRecords[:5], append(slices.Clone(someRecords), "none"), puts(1, impl.MaxRecords+1, oneKey)} {
		room := slices.Clip(append(slices.Clone(records), "put behind 5.0.0|a5=1", "cut 4"))
		was := slices.Clone(room)
		x, code := impl.ReplayNode(0, room[:len(records)])
		if !slices.Equal(room, was) {
			t.Fatal("ReplayNode changes its records", short(records))
		}
		if !apart(spansOfNode(x), []span{spanOf(room)}) || !allApart(spansOfNode(x)) {
			t.Fatal("ReplayNode answers memory that others have", short(records))
		}
		scribble(room, "scribble")
		if code == impl.OK && !alikeNodes(x, sureTold(t, 0, records...)) {
			t.Fatal("ReplayNode answers its records' memory", short(records))
		}
	}
}

// A list of nodes that is written into, behind its end too, changes no later answer.
func TestAnswersOfTheRingAreTheirOwn(t *testing.T) {
	for _, key := range slices.Concat(rightKeys, firstCallKeys[:8]) {
		for range 3 {
			list, _ := impl.Preference(key)
			again, _ := impl.Preference(key)
			owners, _ := impl.Owners(key)
			others, _ := impl.Owners(key)
			if !allApart([]span{spanOf(list), spanOf(again), spanOf(owners), spanOf(others)}) {
				t.Fatal("two answers in one memory", key)
			}
			for mark, nodes := range [][]int{list, again, owners, others} {
				scribble(nodes, mark-7)
				ringAsTold(t, key, placeTold(key))
			}
		}
	}
}

// A lent list of replicas has room behind its own end and behind that of each object's siblings.
type lentObjs struct {
	list, room []obj
	objs       []lent
}

func lendObjs(list []obj) lentObjs {
	var l lentObjs
	for _, o := range list {
		each := lend(o)
		l.objs = append(l.objs, each)
		l.room = append(l.room, each.obj)
	}
	behind := lend(object(vv{0, 0, 80}))
	l.objs = append(l.objs, behind)
	l.room = slices.Clip(append(l.room, behind.obj))
	l.list = l.room[:len(list)]
	return l
}

// untouched asks that each object of the list, and the one behind it, is the one that was lent.
func (l lentObjs) untouched() bool {
	for i, each := range l.objs {
		if got := l.room[i]; !each.untouched() || got.Seen != each.Seen || len(got.Sibs) != len(each.Sibs) || spanOf(got.Sibs) != spanOf(each.Sibs) {
			return false
		}
	}
	return true
}

func (l lentObjs) spans() []span {
	all := []span{spanOf(l.room)}
	for _, each := range l.objs {
		all = append(all, spanOf(each.room))
	}
	return all
}

// Lists of none, one, two, three and four replicas: all orders of some, the same one in several places, and wrong ones.
func listsOfReplicas() [][]obj {
	objs := append(rightObjs(), wrongObjs()[:12]...)
	lists := [][]obj{nil, make([]obj, impl.Nodes), make([]obj, impl.Nodes+1), make([]obj, impl.MaxList+1)}
	for _, a := range objs {
		lists = append(lists, []obj{a}, []obj{a, a, a}, []obj{a, a, a, a})
		for _, b := range objs {
			lists = append(lists, []obj{a, b}, []obj{a, {}, b})
		}
	}
	return lists
}

func TestNoMergeTouchesItsReplicas(t *testing.T) {
	for i, list := range listsOfReplicas() {
		l := lendObjs(list)
		merged, _ := impl.MergeAll(l.list)
		stale, _ := impl.StaleOf(l.list)
		if !l.untouched() {
			t.Fatal("a merge changes an argument", i)
		}
		if !apart([]span{spanOf(merged.Sibs), spanOf(stale)}, l.spans()) {
			t.Fatal("a merge answers an argument's memory", i)
		}
		runtime.KeepAlive(l)
	}
}

// A merge or a list of places that is written into, behind its end too, changes no later answer.
func TestAnswersOfMergesAreTheirOwn(t *testing.T) {
	for i, list := range listsOfReplicas() {
		l := lendObjs(list)
		merged, code := impl.MergeAll(l.list)
		stale, staleCode := impl.StaleOf(l.list)
		kept, keptStale := object(merged.Seen, slices.Clone(merged.Sibs)...), slices.Clone(stale)
		scribble(merged.Sibs, live(1, 12, 12))
		scribble(stale, -7)
		if !l.untouched() {
			t.Fatal("what is answered reaches into an argument", i)
		}
		if again, againCode := impl.MergeAll(l.list); !alike(again, kept) || againCode != code {
			t.Fatal("MergeAll answers what was answered ahead", i, short(again), againCode)
		}
		if again, againCode := impl.StaleOf(l.list); !slices.Equal(again, keptStale) || againCode != staleCode {
			t.Fatal("StaleOf answers what was answered ahead", i, again, againCode)
		}
	}
}
