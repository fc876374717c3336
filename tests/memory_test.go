package tests

import (
	"slices"
	"testing"

	"loop.example/g00535/impl"
)

// Promise 1, of lists: an argument is as it was behind the call, up to its end and behind it, and an answer shares no
// memory with an argument.

// A lent object has room behind its siblings' end, where a call could write without being seen in the list itself.
type lent struct {
	obj
	room, was []sibling
}

func lend(o obj) lent {
	room := slices.Clip(append(slices.Clone(o.Sibs), live(2, 77, 77), live(2, 78, 78), live(2, 79, 79)))
	return lent{obj{Sibs: room[:len(o.Sibs)], Seen: o.Seen}, room, slices.Clone(room)}
}

func (l lent) untouched() bool { return slices.Equal(l.room, l.was) }

// scribble writes all over a list, and all over the room behind it.
func scribble[T any](list []T, mark T) {
	list = list[:cap(list)]
	for i := range list {
		list[i] = mark
	}
}

// A call on two lent objects answers an object; calls on one of them leave the other out.
type objCall struct {
	name string
	ask  func(a, b obj) obj
}

var objCalls = []objCall{
	{"ObjOK", func(a, b obj) obj { impl.ObjOK(a); return obj{} }},
	{"SameObj", func(a, b obj) obj { impl.SameObj(a, b); return obj{} }},
	{"Covers", func(a, b obj) obj { impl.Covers(a, b); return obj{} }},
	{"Covered", func(a, b obj) obj { impl.Covered(a, b.Seen); return obj{} }},
	{"LiveValues", func(a, b obj) obj { impl.LiveValues(a); return obj{} }},
	{"ObjText", func(a, b obj) obj { impl.ObjText(a); return obj{} }},
	{"Join", func(a, b obj) obj { o, _ := impl.Join(a, b); return o }},
	{"Write knowing nothing", func(a, b obj) obj { o, _ := impl.Write(a, vv{}, dot{Node: 0, N: impl.MaxDot}, 7, false); return o }},
	{"Write at the end", func(a, b obj) obj { o, _ := impl.Write(a, vv{}, dot{Node: 2, N: impl.MaxDot}, 7, false); return o }},
	{"Write knowing some", func(a, b obj) obj { o, _ := impl.Write(a, vv{1, 1, 0}, dot{Node: 2, N: 101}, 0, true); return o }},
	{"Write knowing as much", func(a, b obj) obj { o, _ := impl.Write(a, b.Seen, dot{Node: 1, N: 101}, 7, false); return o }},
	{"Write of what is known", func(a, b obj) obj { o, _ := impl.Write(a, vv{}, dot{Node: 0, N: 1}, 7, false); return o }},
	{"Write of a wrong value", func(a, b obj) obj { o, _ := impl.Write(a, vv{}, dot{Node: 0, N: 1}, -7, false); return o }},
}

func TestNoCallTouchesAnObject(t *testing.T) {
	objs := append(rightObjs(), wrongObjs()[:20]...)
	for i, x := range objs {
		for k, y := range objs {
			for _, c := range objCalls {
				a, b := lend(x), lend(y)
				answer := c.ask(a.obj, b.obj)
				if !a.untouched() || !b.untouched() {
					t.Fatal(c.name, "changes an argument", i, k)
				}
				kept := slices.Clone(answer.Sibs)
				scribble(a.room, live(1, 11, 11))
				scribble(b.room, live(1, 11, 11))
				if !slices.Equal(answer.Sibs, kept) {
					t.Fatal(c.name, "answers an argument's memory", i, k)
				}
				a, b = lend(x), lend(y)
				answer = c.ask(a.obj, b.obj)
				scribble(answer.Sibs, live(1, 12, 12))
				if !a.untouched() || !b.untouched() {
					t.Fatal(c.name, "answers memory that reaches into an argument's", i, k)
				}
			}
		}
	}
}

// One object handed in twice is no other case.
func TestAnObjectJoinedToItself(t *testing.T) {
	for i, x := range rightObjs() {
		a := lend(x)
		answer, code := impl.Join(a.obj, a.obj)
		if code != impl.OK || !alike(answer, x) || !a.untouched() {
			t.Fatal("Join", i, answer, code)
		}
		scribble(answer.Sibs, live(1, 12, 12))
		if !a.untouched() {
			t.Fatal("Join answers its argument's memory", i)
		}
	}
}

// What is read of one text twice has no memory in common.
func TestReadObjectsShareNothing(t *testing.T) {
	for i, o := range rightObjs() {
		text, code := impl.ObjText(o)
		if code != impl.OK {
			t.Fatal("ObjText", i, code)
		}
		first, _ := impl.ReadObj(text)
		second, _ := impl.ReadObj(text)
		scribble(first.Sibs, live(1, 12, 12))
		third, _ := impl.ReadObj(text)
		if !alike(second, o) || !alike(third, o) {
			t.Fatal("ReadObj", i, second, third)
		}
	}
}
