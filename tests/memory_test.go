package tests

import (
	"slices"
	"strings"
	"testing"

	"loop.example/g00535/impl"
)

// Promise 1, of lists: an argument is as it was behind the call, up to its end and behind it, and an answer shares no
// memory with an argument.

// A lent object has room behind its siblings' end, where a call could write without being seen in the list itself.
type lent struct {
	obj
	room, was []sibling
}

func lend(o obj) lent {
	room := slices.Clip(append(slices.Clone(o.Sibs), live(2, 77, 77), live(2, 78, 78), live(2, 79, 79)))
	return lent{obj{Sibs: room[:len(o.Sibs)], Seen: o.Seen}, room, slices.Clone(room)}
}

func (l lent) untouched() bool { return slices.Equal(l.room, l.was) }

// scribble writes all over a list, and all over the room behind it.
func scribble[T any](list []T, mark T) {
	list = list[:cap(list)]
	for i := range list {
		list[i] = mark
	}
}

// A call on two lent objects answers an object; calls on one of them leave the other out.
type objCall struct {
	name string
	ask  func(a, b obj) obj
}

var objCalls = []objCall{
	{"ObjOK", func(a, b obj) obj { impl.ObjOK(a); return obj{} }},
	{"SameObj", func(a, b obj) obj { impl.SameObj(a, b); return obj{} }},
	{"Covers", func(a, b obj) obj { impl.Covers(a, b); return obj{} }},
	{"Covered", func(a, b obj) obj { impl.Covered(a, b.Seen); return obj{} }},
	{"LiveValues", func(a, b obj) obj { impl.LiveValues(a); return obj{} }},
	{"ObjText", func(a, b obj) obj { impl.ObjText(a); return obj{} }},
	{"Join", func(a, b obj) obj { o, _ := impl.Join(a, b); return o }},
	{"Write knowing nothing", func(a, b obj) obj { o, _ := impl.Write(a, vv{}, dot{Node: 0, N: impl.MaxDot}, 7, false); return o }},
	{"Write at the end", func(a, b obj) obj { o, _ := impl.Write(a, vv{}, dot{Node: 2, N: impl.MaxDot}, 7, false); return o }},
	{"Write knowing some", func(a, b obj) obj { o, _ := impl.Write(a, vv{1, 1, 0}, dot{Node: 2, N: 101}, 0, true); return o }},
	{"Write knowing as much", func(a, b obj) obj { o, _ := impl.Write(a, b.Seen, dot{Node: 1, N: 101}, 7, false); return o }},
	{"Write of what is known", func(a, b obj) obj { o, _ := impl.Write(a, vv{}, dot{Node: 0, N: 1}, 7, false); return o }},
	{"Write of a wrong value", func(a, b obj) obj { o, _ := impl.Write(a, vv{}, dot{Node: 0, N: 1}, -7, false); return o }},
}

func TestNoCallTouchesAnObject(t *testing.T) {
	objs := append(rightObjs(), wrongObjs()[:20]...)
	for i, x := range objs {
		for k, y := range objs {
			for _, c := range objCalls {
				a, b := lend(x), lend(y)
				answer := c.ask(a.obj, b.obj)
				if !a.untouched() || !b.untouched() {
					t.Fatal(c.name, "changes an argument", i, k)
				}
				kept := slices.Clone(answer.Sibs)
				scribble(a.room, live(1, 11, 11))
				scribble(b.room, live(1, 11, 11))
				if !slices.Equal(answer.Sibs, kept) {
					t.Fatal(c.name, "answers an argument's memory", i, k)
				}
				a, b = lend(x), lend(y)
				answer = c.ask(a.obj, b.obj)
				scribble(answer.Sibs, live(1, 12, 12))
				if !a.untouched() || !b.untouched() {
					t.Fatal(c.name, "answers memory that reaches into an argument's", i, k)
				}
			}
		}
	}
}

// One object handed in twice is no other case.
func TestAnObjectJoinedToItself(t *testing.T) {
	for i, x := range rightObjs() {
		a := lend(x)
		answer, code := impl.Join(a.obj, a.obj)
		if code != impl.OK || !alike(answer, x) || !a.untouched() {
			t.Fatal("Join", i, answer, code)
		}
		scribble(answer.Sibs, live(1, 12, 12))
		if !a.untouched() {
			t.Fatal("Join answers its argument's memory", i)
		}
	}
}

// What is read of one text twice has no memory in common.
func TestReadObjectsShareNothing(t *testing.T) {
	for i, o := range rightObjs() {
		text, code := impl.ObjText(o)
		if code != impl.OK {
			t.Fatal("ObjText", i, code)
		}
		first, _ := impl.ReadObj(text)
		second, _ := impl.ReadObj(text)
		scribble(first.Sibs, live(1, 12, 12))
		third, _ := impl.ReadObj(text)
		if !alike(second, o) || !alike(third, o) {
			t.Fatal("ReadObj", i, second, third)
		}
	}
}

// A lent disk's lists stand in one piece of memory, each with room behind its end: what is written behind the lines that
// are sure may reach those that are not.
type lentDisk struct {
	disk
	room, was []string
}

func lendDisk(d disk) lentDisk {
	room := slices.Clip(slices.Concat(d.Sure, d.Unsure, []string{"1:50:1", "1:51:2", "1:52:3"}))
	sure, all := len(d.Sure), lines(d)
	return lentDisk{disk{Sure: room[:sure], Unsure: room[sure:all]}, room, slices.Clone(room)}
}

func (l lentDisk) untouched() bool { return slices.Equal(l.room, l.was) }

type diskCall struct {
	name string
	ask  func(d disk) disk
}

var diskCalls = []diskCall{
	{"DiskOK", func(d disk) disk { impl.DiskOK(d); return disk{} }},
	{"Append", func(d disk) disk { x, _ := impl.Append(d, "more"); return x }},
	{"Append of nothing", func(d disk) disk { x, _ := impl.Append(d, ""); return x }},
	{"Append of too long a text", func(d disk) disk { x, _ := impl.Append(d, strings.Repeat("x", impl.MaxText+1)); return x }},
	{"Sync", func(d disk) disk { x, _ := impl.Sync(d); return x }},
	{"CrashDisk keeping none", func(d disk) disk { x, _ := impl.CrashDisk(d, 0, 0); return x }},
	{"CrashDisk tearing the first", func(d disk) disk { x, _ := impl.CrashDisk(d, 0, 3); return x }},
	{"CrashDisk keeping one", func(d disk) disk { x, _ := impl.CrashDisk(d, 1, 0); return x }},
	{"CrashDisk tearing the second", func(d disk) disk { x, _ := impl.CrashDisk(d, 1, 3); return x }},
	{"CrashDisk keeping all", func(d disk) disk { x, _ := impl.CrashDisk(d, impl.MaxRecords, impl.MaxText); return x }},
	{"CrashDisk out of range", func(d disk) disk { x, _ := impl.CrashDisk(d, -1, 0); return x }},
	{"Recover", func(d disk) disk { texts, _ := impl.Recover(d); return disk{Sure: texts} }},
}

func copyOfDisk(d disk) disk { return disk{Sure: slices.Clone(d.Sure), Unsure: slices.Clone(d.Unsure)} }

func TestNoCallTouchesADisk(t *testing.T) {
	for i, d := range append(rightDisks(), wrongDisks()...) {
		for _, c := range diskCalls {
			lent := lendDisk(d)
			answer := c.ask(lent.disk)
			if !lent.untouched() {
				t.Fatal(c.name, "changes an argument", i)
			}
			kept := copyOfDisk(answer)
			scribble(lent.room, "scribble")
			if !alikeDisks(answer, kept) {
				t.Fatal(c.name, "answers an argument's memory", i)
			}
			lent = lendDisk(d)
			answer = c.ask(lent.disk)
			scribble(answer.Sure, "scribble")
			if !slices.Equal(answer.Unsure, kept.Unsure) || !lent.untouched() {
				t.Fatal(c.name, "answers sure lines in memory that others have", i)
			}
			answer = c.ask(lent.disk)
			scribble(answer.Unsure, "scribble")
			if !slices.Equal(answer.Sure, kept.Sure) || !lent.untouched() {
				t.Fatal(c.name, "answers lines that are not sure in memory that others have", i)
			}
			if again := c.ask(lent.disk); !alikeDisks(again, kept) {
				t.Fatal(c.name, "answers what was answered ahead", i)
			}
		}
	}
}

// The same list handed in as both of a disk's lists is no other case.
func TestADiskWithOneListTwice(t *testing.T) {
	for _, c := range diskCalls {
		list := sealedLines("ab", "c", "d")
		room := append(slices.Clone(list), "behind", "behind")
		twice := disk{Sure: room[:3], Unsure: room[:3]}
		apart := disk{Sure: slices.Clone(list), Unsure: slices.Clone(list)}
		answer, want := c.ask(twice), c.ask(apart)
		if !alikeDisks(answer, want) {
			t.Error(c.name, answer, want)
		}
		scribble(answer.Sure, "scribble")
		if !slices.Equal(answer.Unsure, want.Unsure) {
			t.Error(c.name, "answers one list twice")
		}
		if !slices.Equal(room, append(slices.Clone(list), "behind", "behind")) {
			t.Error(c.name, "changes an argument")
		}
	}
}
