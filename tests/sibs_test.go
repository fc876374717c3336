package tests

import (
	"math"
	"slices"
	"testing"

	"loop.example/g00535/impl"
)

type (
	sibling = impl.Sibling
	obj     = impl.Obj
)

func live(node, n, value int) sibling {
	return sibling{Dot: dot{Node: node, N: n}, Value: value}
}

func tomb(node, n int) sibling {
	return sibling{Dot: dot{Node: node, N: n}, Dead: true}
}

func object(seen vv, sibs ...sibling) obj { return obj{Sibs: sibs, Seen: seen} }

// Told without the program's own SameObj.
func alike(a, b obj) bool { return a.Seen == b.Seen && slices.Equal(a.Sibs, b.Sibs) }

func isZero(o obj) bool { return len(o.Sibs) == 0 && o.Seen == vv{} }

// run has the siblings from N first to last of a node.
func run(node, first, last int) []sibling {
	var all []sibling
	for n := first; n <= last; n++ {
		all = append(all, live(node, n, n%(impl.MaxValue+1)))
	}
	return all
}

func rightObjs() []obj {
	tombs := make([]sibling, impl.MaxSibs)
	for i := range tombs {
		tombs[i] = tomb(2, i+1)
	}
	return []obj{
		{},
		{Sibs: []sibling{}},
		object(vv{3, 0, 7}),
		object(vv{impl.MaxDot, impl.MaxDot, impl.MaxDot}),
		object(vv{1}, live(0, 1, 0)),
		object(vv{1}, live(0, 1, impl.MaxValue)),
		object(vv{0, 1}, tomb(1, 1)),
		object(vv{0, 0, impl.MaxDot}, live(2, impl.MaxDot, 5)),
		object(vv{9, 9, 9}, live(0, 2, 5), live(0, 7, 5), tomb(1, 1), live(1, 9, 0), live(2, 3, impl.MaxValue), tomb(2, 4)),
		object(vv{1, 3}, live(0, 1, 5), live(1, 3, 6)),
		object(vv{0, 9, 1}, live(1, 9, 1), live(2, 1, 2)),
		object(vv{impl.MaxSibs}, run(0, 1, impl.MaxSibs)...),
		object(vv{0, impl.MaxDot}, run(1, impl.MaxDot-impl.MaxSibs+1, impl.MaxDot)...),
		object(vv{1, 2, impl.MaxSibs}, tombs...),
		object(vv{60, 60}, append(run(0, 11, 60), run(1, 11, 60)...)...),
	}
}

func wrongObjs() []obj {
	seen := vv{9, 9, 9}
	all := []obj{
		object(seen, live(0, 2, 5), live(0, 1, 5)),
		object(seen, live(1, 1, 5), live(0, 2, 5)),
		object(seen, live(0, 1, 5), live(2, 1, 5), live(1, 1, 5)),
		object(seen, live(0, 1, 5), live(0, 1, 5)),
		object(seen, live(0, 1, 5), live(0, 1, 6)),
		object(seen, live(0, 1, 5), live(1, 4, 6), tomb(1, 4)),
		object(vv{}, live(0, 1, 5)),
		object(vv{9, 3, 9}, live(0, 1, 5), live(1, 4, 6)),
		object(vv{9, 9, 3}, live(0, 1, 5), live(1, 4, 6), tomb(2, 4)),
		object(vv{0, 9, 9}, live(0, 1, 5), live(1, 4, 6)),
		object(vv{impl.MaxSibs + 1}, run(0, 1, impl.MaxSibs+1)...),
		object(vv{impl.MaxDot, impl.MaxDot, impl.MaxDot}, run(0, 1, impl.MaxList+1)...),
	}
	for _, value := range []int{-1, impl.MaxValue + 1, 1 << 32, math.MinInt, math.MaxInt} {
		all = append(all, object(seen, live(0, 1, value)), object(seen, live(0, 1, 5), live(2, 9, value)))
	}
	for _, value := range []int{-1, 1, impl.MaxValue, impl.MaxValue + 1, math.MinInt, math.MaxInt} {
		stone := sibling{Dot: dot{Node: 1, N: 4}, Value: value, Dead: true}
		all = append(all, object(seen, stone), object(seen, live(0, 1, 5), stone))
	}
	for _, d := range wrongDots {
		s := sibling{Dot: d, Value: 5}
		all = append(all, object(seen, s), object(seen, live(0, 1, 5), s), object(seen, s, live(2, 9, 5)))
	}
	for _, v := range wrongVvs() {
		all = append(all, object(v), object(v, live(0, 1, 5)))
	}
	return all
}

func TestObjConstants(t *testing.T) {
	if impl.MaxSibs != 100 || impl.MaxValue != 999 {
		t.Error(impl.MaxSibs, impl.MaxValue)
	}
}

func TestObjRightAndWrong(t *testing.T) {
	for i, o := range rightObjs() {
		if !impl.ObjOK(o) {
			t.Error("ObjOK of a right one", i, o)
		}
	}
	for i, o := range wrongObjs() {
		if impl.ObjOK(o) {
			t.Error("ObjOK of a wrong one", i, o)
		}
	}
}

func TestJoin(t *testing.T) {
	for i, c := range []struct{ a, b, want obj }{
		{obj{}, obj{}, obj{}},
		{obj{}, object(vv{3, 0, 7}), object(vv{3, 0, 7})},
		{object(vv{1}, live(0, 1, 5)), obj{}, object(vv{1}, live(0, 1, 5))},
		{obj{}, object(vv{0, 1}, tomb(1, 1)), object(vv{0, 1}, tomb(1, 1))},
		{object(vv{1}, live(0, 1, 5)), object(vv{0, 3}, live(1, 3, 6)), object(vv{1, 3}, live(0, 1, 5), live(1, 3, 6))},
		{object(vv{0, 3}, live(1, 3, 6)), object(vv{1}, live(0, 1, 5)), object(vv{1, 3}, live(0, 1, 5), live(1, 3, 6))},
		// what both have is as the first one has it
		{object(vv{1}, live(0, 1, 5)), object(vv{1}, live(0, 1, 6)), object(vv{1}, live(0, 1, 5))},
		{object(vv{1}, live(0, 1, 5)), object(vv{1}, tomb(0, 1)), object(vv{1}, live(0, 1, 5))},
		{object(vv{1}, tomb(0, 1)), object(vv{1}, live(0, 1, 5)), object(vv{1}, tomb(0, 1))},
		// what the other one knows and has not is gone
		{object(vv{1}, live(0, 1, 5)), object(vv{1}), object(vv{1})},
		{object(vv{2}), object(vv{1}, live(0, 1, 5)), object(vv{2})},
		{object(vv{2}, live(0, 1, 5)), object(vv{2}, live(0, 2, 6)), object(vv{2})},
		{object(vv{2}, live(0, 1, 5), live(0, 2, 6)), object(vv{1}), object(vv{2}, live(0, 2, 6))},
		{object(vv{1}, tomb(0, 1)), object(vv{1, 1}, live(1, 1, 5)), object(vv{1, 1}, live(1, 1, 5))},
		// first, last and between each other, some of both
		{object(vv{5, 5, 0}, live(0, 2, 2), live(0, 5, 5), live(1, 4, 4)), object(vv{4, 0, 3}, live(0, 4, 1), live(2, 1, 1), live(2, 3, 3)),
			object(vv{5, 5, 3}, live(0, 5, 5), live(1, 4, 4), live(2, 1, 1), live(2, 3, 3))},
		{object(vv{3, 0, 2}, live(0, 1, 1), live(0, 3, 3), live(2, 2, 2)), object(vv{1, 2, 4}, live(0, 1, 1), live(1, 2, 2), live(2, 2, 2), tomb(2, 4)),
			object(vv{3, 2, 4}, live(0, 1, 1), live(0, 3, 3), live(1, 2, 2), live(2, 2, 2), tomb(2, 4))},
		{object(vv{9, 0, 9}, live(0, 1, 1), live(2, 9, 9)), object(vv{0, 9, 0}, live(1, 1, 1), live(1, 9, 9)),
			object(vv{9, 9, 9}, live(0, 1, 1), live(1, 1, 1), live(1, 9, 9), live(2, 9, 9))},
		{object(vv{impl.MaxDot}, live(0, impl.MaxDot, 0)), object(vv{impl.MaxDot - 1, 0, impl.MaxDot}, live(2, impl.MaxDot, 999)),
			object(vv{impl.MaxDot, 0, impl.MaxDot}, live(0, impl.MaxDot, 0), live(2, impl.MaxDot, 999))},
	} {
		if got, code := impl.Join(c.a, c.b); !alike(got, c.want) || code != impl.OK {
			t.Error("Join", i, got, code, "not", c.want)
		}
	}
}

func TestJoinOfTooMany(t *testing.T) {
	full := object(vv{impl.MaxSibs}, run(0, 1, impl.MaxSibs)...)
	half := object(vv{0, 50}, run(1, 1, 50)...)
	for i, c := range []struct {
		a, b       obj
		sibs, code int
	}{
		{full, obj{}, impl.MaxSibs, impl.OK},
		{full, full, impl.MaxSibs, impl.OK},
		{full, object(vv{0, 1}), impl.MaxSibs, impl.OK},
		{full, object(vv{50}, run(0, 1, 50)...), impl.MaxSibs, impl.OK},
		{full, object(vv{1, 1}, live(1, 1, 1)), impl.MaxSibs, impl.OK}, // it knows one of them, and brings one
		{half, object(vv{0, 0, 50}, run(2, 1, 50)...), impl.MaxSibs, impl.OK},
		{half, object(vv{0, 0, 51}, run(2, 1, 51)...), 0, impl.ErrMany},
		{object(vv{51}, run(0, 1, 51)...), half, 0, impl.ErrMany},
		{full, object(vv{0, 1}, live(1, 1, 1)), 0, impl.ErrMany},
		{object(vv{0, 1}, tomb(1, 1)), full, 0, impl.ErrMany},
		{full, object(vv{0, impl.MaxSibs}, run(1, 1, impl.MaxSibs)...), 0, impl.ErrMany},
	} {
		got, code := impl.Join(c.a, c.b)
		if code != c.code || len(got.Sibs) != c.sibs || code != impl.OK && !isZero(got) || code == impl.OK && !impl.ObjOK(got) {
			t.Error("Join", i, len(got.Sibs), got.Seen, code)
		}
	}
}

func TestWrite(t *testing.T) {
	some := object(vv{5, 5, 0}, live(0, 2, 2), live(0, 5, 5), tomb(1, 4))
	for i, c := range []struct {
		o     obj
		ctx   vv
		new   sibling
		after obj
	}{
		{obj{}, vv{}, live(0, 1, 0), object(vv{1}, live(0, 1, 0))},
		{obj{}, vv{}, live(2, impl.MaxDot, impl.MaxValue), object(vv{0, 0, impl.MaxDot}, live(2, impl.MaxDot, impl.MaxValue))},
		{obj{}, vv{}, tomb(1, 1), object(vv{0, 1}, tomb(1, 1))},
		// a context that knows nothing: all stay, and the new one is placed by its dot
		{some, vv{}, live(0, 6, 7), object(vv{6, 5, 0}, live(0, 2, 2), live(0, 5, 5), live(0, 6, 7), tomb(1, 4))},
		{some, vv{}, tomb(1, 6), object(vv{5, 6, 0}, live(0, 2, 2), live(0, 5, 5), tomb(1, 4), tomb(1, 6))},
		{some, vv{}, live(2, 1, 7), object(vv{5, 5, 1}, live(0, 2, 2), live(0, 5, 5), tomb(1, 4), live(2, 1, 7))},
		{object(vv{0, 3}, live(1, 3, 3)), vv{}, live(0, 9, 7), object(vv{9, 3}, live(0, 9, 7), live(1, 3, 3))},
		// some, all of it, and more
		{some, vv{1, 3}, live(2, 1, 7), object(vv{5, 5, 1}, live(0, 2, 2), live(0, 5, 5), tomb(1, 4), live(2, 1, 7))},
		{some, vv{2, 3}, live(2, 1, 7), object(vv{5, 5, 1}, live(0, 5, 5), tomb(1, 4), live(2, 1, 7))},
		{some, vv{4, 4}, live(2, 1, 7), object(vv{5, 5, 1}, live(0, 5, 5), live(2, 1, 7))},
		{some, vv{0, 4}, tomb(2, 1), object(vv{5, 5, 1}, live(0, 2, 2), live(0, 5, 5), tomb(2, 1))},
		{some, vv{5}, live(0, 6, 7), object(vv{6, 5, 0}, live(0, 6, 7), tomb(1, 4))},
		{some, vv{5, 4}, live(2, 1, 7), object(vv{5, 5, 1}, live(2, 1, 7))},
		{some, some.Seen, tomb(0, 6), object(vv{6, 5, 0}, tomb(0, 6))},
		{some, vv{5, 9, 3}, live(0, 6, 7), object(vv{6, 9, 3}, live(0, 6, 7))},
		{some, vv{0, 0, 8}, live(2, 9, 7), object(vv{5, 5, 9}, live(0, 2, 2), live(0, 5, 5), tomb(1, 4), live(2, 9, 7))},
		{some, vv{9, 0, 8}, live(0, 10, 7), object(vv{10, 5, 8}, live(0, 10, 7), tomb(1, 4))},
		{obj{}, vv{4, 0, 2}, live(1, 1, 1), object(vv{4, 1, 2}, live(1, 1, 1))},
		{object(vv{3, 0, 7}), vv{impl.MaxDot - 1, 1, impl.MaxDot}, live(0, impl.MaxDot, 1), object(vv{impl.MaxDot, 1, impl.MaxDot}, live(0, impl.MaxDot, 1))},
		// an event may be left out
		{object(vv{1}, live(0, 1, 1)), vv{}, live(0, 9, 9), object(vv{9}, live(0, 1, 1), live(0, 9, 9))},
	} {
		got, code := impl.Write(c.o, c.ctx, c.new.Dot, c.new.Value, c.new.Dead)
		if !alike(got, c.after) || code != impl.OK {
			t.Error("Write", i, got, code, "not", c.after)
		}
	}
}

// Beside ErrOrder and ErrMany the object is as it was.
func TestWriteThatIsRefused(t *testing.T) {
	some := object(vv{5, 5, 0}, live(0, 2, 2), tomb(1, 4))
	full := object(vv{impl.MaxSibs}, run(0, 1, impl.MaxSibs)...)
	almost := object(vv{0, impl.MaxSibs}, run(1, 2, impl.MaxSibs)...)
	for i, c := range []struct {
		o    obj
		ctx  vv
		d    dot
		code int
	}{
		{some, vv{}, dot{Node: 0, N: 5}, impl.ErrOrder},
		{some, vv{}, dot{Node: 0, N: 2}, impl.ErrOrder},
		{some, vv{}, dot{Node: 0, N: 1}, impl.ErrOrder},
		{some, vv{}, dot{Node: 0, N: 6}, impl.OK},
		{some, vv{6}, dot{Node: 0, N: 6}, impl.ErrOrder},
		{some, vv{7}, dot{Node: 0, N: 6}, impl.ErrOrder},
		{some, vv{5}, dot{Node: 0, N: 6}, impl.OK},
		{some, vv{0, 0, 1}, dot{Node: 2, N: 1}, impl.ErrOrder},
		{some, vv{9, 9, 0}, dot{Node: 2, N: 1}, impl.OK},
		{obj{}, vv{0, impl.MaxDot}, dot{Node: 1, N: impl.MaxDot}, impl.ErrOrder},
		{object(vv{0, impl.MaxDot}), vv{}, dot{Node: 1, N: impl.MaxDot}, impl.ErrOrder},
		{full, vv{}, dot{Node: 1, N: 1}, impl.ErrMany},
		{full, full.Seen, dot{Node: 1, N: 1}, impl.ErrMany},
		{full, vv{}, dot{Node: 0, N: impl.MaxSibs + 1}, impl.ErrMany},
		{full, vv{}, dot{Node: 0, N: impl.MaxSibs}, impl.ErrOrder},
		{full, vv{0, 1}, dot{Node: 1, N: 1}, impl.ErrOrder},
		{almost, vv{}, dot{Node: 0, N: 1}, impl.OK},
		{almost, vv{}, dot{Node: 2, N: 1}, impl.OK},
	} {
		for _, s := range []sibling{live(c.d.Node, c.d.N, 7), tomb(c.d.Node, c.d.N)} {
			got, code := impl.Write(c.o, c.ctx, s.Dot, s.Value, s.Dead)
			if code != c.code || code != impl.OK && !alike(got, c.o) || code == impl.OK && !slices.Contains(got.Sibs, s) {
				t.Error("Write", i, got, code)
			}
		}
	}
}

func TestLiveValues(t *testing.T) {
	for i, c := range []struct {
		o    obj
		want []int
	}{
		{obj{}, nil},
		{object(vv{3, 0, 7}), nil},
		{object(vv{2}, tomb(0, 1), tomb(0, 2)), nil},
		{object(vv{1}, live(0, 1, 0)), []int{0}},
		{object(vv{9, 9, 9}, live(0, 1, 9), tomb(0, 2), live(1, 1, 3), live(1, 2, 3), tomb(1, 3), live(2, 1, 0)), []int{9, 3, 3, 0}},
	} {
		if got, code := impl.LiveValues(c.o); !slices.Equal(got, c.want) || code != impl.OK {
			t.Error("LiveValues", i, got, code)
		}
	}
	full := object(vv{impl.MaxSibs}, run(0, 1, impl.MaxSibs)...)
	if got, code := impl.LiveValues(full); len(got) != impl.MaxSibs || got[99] != 100 || code != impl.OK {
		t.Error("LiveValues", got, code)
	}
}

func TestCovers(t *testing.T) {
	full := object(vv{impl.MaxSibs}, run(0, 1, impl.MaxSibs)...)
	one := object(vv{1}, live(0, 1, 5))
	for i, c := range []struct {
		a, b obj
		want bool
	}{
		{obj{}, obj{}, true},
		{obj{}, obj{Sibs: []sibling{}}, true},
		{one, obj{}, true},
		{obj{}, one, false},
		{obj{}, object(vv{0, 0, 1}), false},
		{object(vv{0, 0, 1}), obj{}, true},
		{one, object(vv{1}, live(0, 1, 6)), true}, // as a has it
		{one, object(vv{1}, tomb(0, 1)), true},
		{one, object(vv{1}), false}, // b knows that it is gone
		{object(vv{1}), one, true},
		{one, object(vv{0, 1}, live(1, 1, 5)), false},
		{object(vv{1, 1}, live(0, 1, 5)), object(vv{0, 1}, live(1, 1, 5)), true},
		{object(vv{2}, live(0, 1, 5), live(0, 2, 5)), one, true},
		{one, object(vv{2}, live(0, 1, 5), live(0, 2, 5)), false},
		{full, full, true},
		{full, object(vv{0, 1}, live(1, 1, 1)), false}, // more than MaxSibs, and no code
		{object(vv{0, 1}, live(1, 1, 1)), full, false},
		{full, object(vv{100}), false},
		{full, object(vv{50}, run(0, 1, 50)...), true},
	} {
		if got, code := impl.Covers(c.a, c.b); got != c.want || code != impl.OK {
			t.Error("Covers", i, got, code)
		}
	}
}

func TestCovered(t *testing.T) {
	some := object(vv{5, 5, 0}, live(0, 2, 2), live(0, 3, 2), tomb(1, 4))
	for i, c := range []struct {
		o    obj
		ctx  vv
		want bool
	}{
		{obj{}, vv{}, true},
		{object(vv{3, 0, 7}), vv{}, true},
		{some, vv{}, false},
		{some, vv{3, 4}, true},
		{some, vv{2, 4}, false},
		{some, vv{3, 3, 9}, false},
		{some, vv{0, 9, 9}, false},
		{some, some.Seen, true},
		{some, vv{impl.MaxDot, impl.MaxDot, impl.MaxDot}, true},
	} {
		if got, code := impl.Covered(c.o, c.ctx); got != c.want || code != impl.OK {
			t.Error("Covered", i, got, code)
		}
	}
}

// SameObj has no code: objects that are not right are held against each other, too.
func TestSameObj(t *testing.T) {
	all := append(rightObjs(), wrongObjs()...)
	for i, a := range all {
		for j, b := range all {
			if got := impl.SameObj(a, b); got != alike(a, b) {
				t.Error("SameObj", i, j, got)
			}
		}
		if !impl.SameObj(a, obj{Sibs: slices.Clone(a.Sibs), Seen: a.Seen}) {
			t.Error("SameObj of a copy", i)
		}
	}
	o := object(vv{2, 2}, live(0, 1, 5), live(1, 2, 0))
	for i, other := range []obj{
		object(vv{2, 2}, live(0, 1, 5)),
		object(vv{2, 2}, live(0, 1, 5), live(1, 2, 0), live(2, 1, 0)),
		object(vv{2, 3}, live(0, 1, 5), live(1, 2, 0)),
		object(vv{2, 2}, live(0, 2, 5), live(1, 2, 0)),
		object(vv{2, 2}, live(0, 1, 5), live(1, 2, 1)),
		object(vv{2, 2}, live(0, 1, 5), tomb(1, 2)),
		object(vv{2, 2}, live(0, 1, 5), live(2, 2, 0)),
		object(vv{2, 2}, live(1, 2, 0), live(0, 1, 5)),
	} {
		if impl.SameObj(o, other) || impl.SameObj(other, o) {
			t.Error("SameObj", i)
		}
	}
}

// Beside ErrBad all else is zero, whichever argument is wrong, and ahead of all other codes.
func TestWrongObjsAreBad(t *testing.T) {
	for i, wrong := range wrongObjs() {
		for _, right := range rightObjs() {
			for _, p := range [][2]obj{{wrong, right}, {right, wrong}, {wrong, wrong}} {
				if got, code := impl.Join(p[0], p[1]); !isZero(got) || code != impl.ErrBad {
					t.Error("Join", i, got, code)
				}
				if got, code := impl.Covers(p[0], p[1]); got || code != impl.ErrBad {
					t.Error("Covers", i, got, code)
				}
			}
		}
		for _, d := range append(rightDots(), wrongDots...) {
			wrongWrite(t, wrong, vv{}, d, 5, false)
		}
		if got, code := impl.LiveValues(wrong); len(got) != 0 || code != impl.ErrBad {
			t.Error("LiveValues", i, got, code)
		}
		for _, ctx := range append(wrongVvs(), vv{}, vv{9, 9, 9}) {
			if got, code := impl.Covered(wrong, ctx); got || code != impl.ErrBad {
				t.Error("Covered", i, got, code)
			}
		}
	}
}

func TestWrongContextsAndValuesAreBad(t *testing.T) {
	for _, o := range rightObjs() {
		for _, ctx := range wrongVvs() {
			wrongWrite(t, o, ctx, dot{Node: 0, N: 1}, 5, false)
			if got, code := impl.Covered(o, ctx); got || code != impl.ErrBad {
				t.Error("Covered", o, ctx, got, code)
			}
		}
		for _, d := range wrongDots {
			wrongWrite(t, o, vv{}, d, 5, false)
		}
		for _, value := range []int{-1, impl.MaxValue + 1, math.MinInt, math.MaxInt} {
			wrongWrite(t, o, vv{}, dot{Node: 0, N: 1}, value, false)
			wrongWrite(t, o, vv{}, dot{Node: 0, N: 1}, value, true)
		}
		for _, value := range []int{1, impl.MaxValue} {
			wrongWrite(t, o, vv{}, dot{Node: 0, N: 1}, value, true)
		}
	}
}

func wrongWrite(t *testing.T, o obj, ctx vv, d dot, value int, dead bool) {
	t.Helper()
	if got, code := impl.Write(o, ctx, d, value, dead); !isZero(got) || code != impl.ErrBad {
		t.Error("Write", o, ctx, d, value, dead, got, code)
	}
}
