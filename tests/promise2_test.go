package tests

import (
	"testing"

	"loop.example/g00535/impl"
)

// Promise 2: what two know together is above both, what both know below; dots have one order.

func most(t *testing.T, a, b vv) vv {
	t.Helper()
	v, code := impl.VvMax(a, b)
	if code != impl.OK {
		t.Fatal("VvMax", a, b, code)
	}
	return v
}

func least(t *testing.T, a, b vv) vv {
	t.Helper()
	v, code := impl.VvMin(a, b)
	if code != impl.OK {
		t.Fatal("VvMin", a, b, code)
	}
	return v
}

func order(t *testing.T, a, b vv) int {
	t.Helper()
	k, code := impl.VvOrder(a, b)
	if code != impl.OK {
		t.Fatal("VvOrder", a, b, code)
	}
	return k
}

// Told node by node, with none of the program's own calls.
func nothingAbove(a, b vv) bool {
	for i := range a {
		if a[i] > b[i] {
			return false
		}
	}
	return true
}

func TestTogetherIsAboveBothAndInCommonBelow(t *testing.T) {
	all := rightVvs()
	for _, a := range all {
		for _, b := range all {
			up, down := most(t, a, b), least(t, a, b)
			if !nothingAbove(a, up) || !nothingAbove(b, up) || !nothingAbove(down, a) || !nothingAbove(down, b) {
				t.Fatal("not above or not below", a, b, up, down)
			}
			if most(t, b, a) != up || least(t, b, a) != down {
				t.Fatal("who comes first counts", a, b)
			}
			if most(t, a, down) != a || least(t, a, up) != a || most(t, a, a) != a || least(t, a, a) != a {
				t.Fatal("one does not take up the other", a, b)
			}
			for i := range a {
				if up[i] != a[i] && up[i] != b[i] || down[i] != a[i] && down[i] != b[i] {
					t.Fatal("a number of neither", a, b, up, down)
				}
			}
		}
	}
}

func TestTogetherDoesNotAskForTheOrder(t *testing.T) {
	all := rightVvs()
	for i := 0; i < len(all); i += 2 {
		for j := 1; j < len(all); j += 3 {
			for k := 0; k < len(all); k += 5 {
				a, b, c := all[i], all[j], all[k]
				if most(t, most(t, a, b), c) != most(t, a, most(t, b, c)) || least(t, least(t, a, b), c) != least(t, a, least(t, b, c)) {
					t.Fatal(a, b, c)
				}
			}
		}
	}
}

func TestOrderTellsWhatIsAbove(t *testing.T) {
	all := rightVvs()
	for _, a := range all {
		for _, b := range all {
			want := impl.OrBeside
			switch below, above := nothingAbove(a, b), nothingAbove(b, a); {
			case below && above:
				want = impl.OrSame
			case below:
				want = impl.OrBefore
			case above:
				want = impl.OrAfter
			}
			if k := order(t, a, b); k != want {
				t.Fatal("VvOrder", a, b, k, want)
			}
			if k := order(t, a, most(t, a, b)); k != impl.OrSame && k != impl.OrBefore {
				t.Fatal("VvOrder of what both know together", a, b, k)
			}
			if k := order(t, a, least(t, a, b)); k != impl.OrSame && k != impl.OrAfter {
				t.Fatal("VvOrder of what both know", a, b, k)
			}
		}
	}
}

func TestEventsKnownTogetherAndInCommon(t *testing.T) {
	all := rightVvs()
	for _, d := range rightDots() {
		for _, a := range all {
			inA, _ := impl.VvHas(a, d)
			more, _ := impl.VvAdd(a, d)
			if has, code := impl.VvHas(more, d); !has || code != impl.OK || !nothingAbove(a, more) {
				t.Fatal("VvAdd", a, d, more)
			}
			for _, b := range all {
				inB, _ := impl.VvHas(b, d)
				together, _ := impl.VvHas(most(t, a, b), d)
				common, _ := impl.VvHas(least(t, a, b), d)
				if together != (inA || inB) || common != (inA && inB) {
					t.Fatal("VvHas", a, b, d, together, common)
				}
			}
		}
	}
}

// rightDots tells them in their order: an event's place there is the order that is asked for.
func TestDotsHaveOneOrder(t *testing.T) {
	all := rightDots()
	for i, a := range all {
		for j, b := range all {
			want := 0
			if i < j {
				want = -1
			} else if i > j {
				want = 1
			}
			if k, code := impl.OrderDots(a, b); k != want || code != impl.OK {
				t.Error("OrderDots", a, b, k, code)
			}
		}
	}
}
