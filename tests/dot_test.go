package tests

import (
	"math"
	"testing"

	"loop.example/g00535/impl"
)

type (
	dot = impl.Dot
	vv  = impl.Vv
)

// Numbers that are known of a node at the edges and in the middle.
var knownNumbers = []int{0, 1, 7, impl.MaxDot - 1, impl.MaxDot}

var wrongNumbers = []int{-1, impl.MaxDot + 1, 1 << 32, math.MinInt, math.MaxInt}

var wrongDots = []dot{{}, {Node: 0, N: 0}, {Node: 2, N: 0}, {Node: 0, N: -1}, {Node: 1, N: impl.MaxDot + 1}, {Node: -1, N: 1},
	{Node: impl.Nodes, N: 1}, {Node: -1, N: 0}, {Node: impl.Nodes, N: impl.MaxDot + 1}, {Node: math.MinInt, N: math.MinInt},
	{Node: math.MaxInt, N: math.MaxInt}, {Node: 0, N: math.MaxInt}, {Node: 1, N: math.MinInt}, {Node: math.MaxInt, N: 1},
	{Node: math.MinInt, N: 1}, {Node: 1 << 32, N: 1}}

func rightVvs() []vv {
	var all []vv
	for _, x := range knownNumbers {
		for _, y := range knownNumbers {
			for _, z := range knownNumbers {
				all = append(all, vv{x, y, z})
			}
		}
	}
	return all
}

// Each wrong number alone at each place, and all places wrong.
func wrongVvs() []vv {
	var all []vv
	for _, n := range wrongNumbers {
		for i := range impl.Nodes {
			v := vv{1, 2, 3}
			v[i] = n
			all = append(all, v)
		}
		all = append(all, vv{n, n, n})
	}
	return all
}

func rightDots() []dot {
	var all []dot
	for node := range impl.Nodes {
		for _, n := range []int{1, 2, 7, 8, impl.MaxDot - 1, impl.MaxDot} {
			all = append(all, dot{Node: node, N: n})
		}
	}
	return all
}

func TestDotConstants(t *testing.T) {
	if impl.Nodes != 3 || impl.MaxDot != 9999 {
		t.Error(impl.Nodes, impl.MaxDot)
	}
	if impl.OrSame != 0 || impl.OrBefore != 1 || impl.OrAfter != 2 || impl.OrBeside != 3 {
		t.Error(impl.OrSame, impl.OrBefore, impl.OrAfter, impl.OrBeside)
	}
}

func TestRightAndWrong(t *testing.T) {
	for _, d := range rightDots() {
		if !impl.DotOK(d) {
			t.Error("DotOK", d)
		}
	}
	for _, d := range wrongDots {
		if impl.DotOK(d) {
			t.Error("DotOK", d)
		}
	}
	for _, v := range rightVvs() {
		if !impl.VvOK(v) {
			t.Error("VvOK", v)
		}
	}
	for _, v := range wrongVvs() {
		if impl.VvOK(v) {
			t.Error("VvOK", v)
		}
	}
}

func TestGreaterAndLesser(t *testing.T) {
	for _, c := range []struct{ a, b, most, least vv }{
		{vv{3, 0, 7}, vv{1, 2, 7}, vv{3, 2, 7}, vv{1, 0, 7}},
		{vv{}, vv{}, vv{}, vv{}},
		{vv{}, vv{9999, 9999, 9999}, vv{9999, 9999, 9999}, vv{}},
		{vv{9999, 0, 1}, vv{0, 9999, 2}, vv{9999, 9999, 2}, vv{0, 0, 1}},
	} {
		if v, code := impl.VvMax(c.a, c.b); v != c.most || code != impl.OK {
			t.Error("VvMax", c.a, c.b, v, code)
		}
		if v, code := impl.VvMin(c.a, c.b); v != c.least || code != impl.OK {
			t.Error("VvMin", c.a, c.b, v, code)
		}
	}
}

func TestHasAndAdd(t *testing.T) {
	for _, v := range rightVvs() {
		for _, d := range rightDots() {
			has, code := impl.VvHas(v, d)
			if has != (v[d.Node] >= d.N) || code != impl.OK {
				t.Fatal("VvHas", v, d, has, code)
			}
			want := v
			if !has {
				want[d.Node] = d.N
			}
			if got, code := impl.VvAdd(v, d); got != want || code != impl.OK {
				t.Fatal("VvAdd", v, d, got, code)
			}
		}
	}
}

func TestOrderOfWhatIsKnown(t *testing.T) {
	for _, c := range []struct {
		a, b vv
		want int
	}{
		{vv{}, vv{}, impl.OrSame},
		{vv{9999, 9999, 9999}, vv{9999, 9999, 9999}, impl.OrSame},
		{vv{}, vv{0, 0, 1}, impl.OrBefore},
		{vv{}, vv{9999, 9999, 9999}, impl.OrBefore},
		{vv{1, 2, 3}, vv{1, 3, 3}, impl.OrBefore},
		{vv{1, 3, 3}, vv{1, 2, 3}, impl.OrAfter},
		{vv{1, 0, 0}, vv{}, impl.OrAfter},
		{vv{1, 0, 0}, vv{0, 1, 0}, impl.OrBeside},
		{vv{0, 1, 0}, vv{1, 0, 0}, impl.OrBeside},
		{vv{5, 5, 4}, vv{5, 4, 5}, impl.OrBeside},
		{vv{9999, 0, 0}, vv{0, 0, 1}, impl.OrBeside},
		{vv{2, 2, 1}, vv{1, 1, 9999}, impl.OrBeside},
	} {
		if k, code := impl.VvOrder(c.a, c.b); k != c.want || code != impl.OK {
			t.Error("VvOrder", c.a, c.b, k, code)
		}
	}
}

func TestOrderOfDots(t *testing.T) {
	for _, c := range []struct {
		a, b dot
		want int
	}{
		{dot{Node: 0, N: 1}, dot{Node: 0, N: 1}, 0},
		{dot{Node: 2, N: 9999}, dot{Node: 2, N: 9999}, 0},
		{dot{Node: 0, N: 1}, dot{Node: 0, N: 2}, -1},
		{dot{Node: 0, N: 9999}, dot{Node: 0, N: 1}, 1},
		{dot{Node: 0, N: 9999}, dot{Node: 1, N: 1}, -1},
		{dot{Node: 2, N: 1}, dot{Node: 0, N: 9999}, 1},
		{dot{Node: 2, N: 5}, dot{Node: 0, N: 5}, 1},
		{dot{Node: 0, N: 5}, dot{Node: 2, N: 5}, -1},
	} {
		if k, code := impl.OrderDots(c.a, c.b); k != c.want || code != impl.OK {
			t.Error("OrderDots", c.a, c.b, k, code)
		}
	}
}

// Beside ErrBad all else is zero, whichever argument is wrong.
func TestWrongVvsAreBad(t *testing.T) {
	right := vv{3, 0, 7}
	for _, v := range wrongVvs() {
		for _, p := range [][2]vv{{v, right}, {right, v}, {v, v}} {
			if got, code := impl.VvMax(p[0], p[1]); got != (vv{}) || code != impl.ErrBad {
				t.Error("VvMax", p, got, code)
			}
			if got, code := impl.VvMin(p[0], p[1]); got != (vv{}) || code != impl.ErrBad {
				t.Error("VvMin", p, got, code)
			}
			if k, code := impl.VvOrder(p[0], p[1]); k != 0 || code != impl.ErrBad {
				t.Error("VvOrder", p, k, code)
			}
		}
		for _, d := range rightDots() {
			wrongHasAndAdd(t, v, d)
		}
	}
}

func TestWrongDotsAreBad(t *testing.T) {
	right := dot{Node: 1, N: 5}
	for _, d := range wrongDots {
		for _, p := range [][2]dot{{d, right}, {right, d}, {d, d}} {
			if k, code := impl.OrderDots(p[0], p[1]); k != 0 || code != impl.ErrBad {
				t.Error("OrderDots", p, k, code)
			}
		}
		for _, v := range append(rightVvs(), wrongVvs()...) {
			wrongHasAndAdd(t, v, d)
		}
	}
}

func wrongHasAndAdd(t *testing.T, v vv, d dot) {
	t.Helper()
	if has, code := impl.VvHas(v, d); has || code != impl.ErrBad {
		t.Error("VvHas", v, d, has, code)
	}
	if got, code := impl.VvAdd(v, d); got != (vv{}) || code != impl.ErrBad {
		t.Error("VvAdd", v, d, got, code)
	}
}
