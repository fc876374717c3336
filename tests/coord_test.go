package tests

import (
	"fmt"
	"math"
	"slices"
	"strings"
	"testing"

	"loop.example/g00535/impl"
)

// mergeTold asks of each sibling by itself: it is there, as the first replica that has it has it, unless some replica
// knows it to be gone.
func mergeTold(list []obj) obj {
	var all obj
	for _, o := range list {
		for node, n := range o.Seen {
			all.Seen[node] = max(all.Seen[node], n)
		}
		for _, s := range o.Sibs {
			gone := slices.ContainsFunc(list, func(x obj) bool { return s.Dot.N <= x.Seen[s.Dot.Node] && !hasDot(x.Sibs, s.Dot) })
			if !gone && !hasDot(all.Sibs, s.Dot) {
				all.Sibs = append(all.Sibs, s)
			}
		}
	}
	return inOrder(all)
}

// mergesAsTold holds a merge of right replicas, and what is stale of them, against what the test works out by itself.
func mergesAsTold(t *testing.T, list ...obj) {
	t.Helper()
	want, wantCode := mergeTold(list), impl.OK
	var wantStale []int
	for place, o := range list {
		if !alike(o, want) {
			wantStale = append(wantStale, place)
		}
	}
	if len(want.Sibs) > impl.MaxSibs {
		want, wantStale, wantCode = obj{}, nil, impl.ErrMany
	}
	if got, code := impl.MergeAll(list); !alike(got, want) || code != wantCode {
		t.Fatal("MergeAll", short(list), short(got), code, "not", short(want), wantCode)
	}
	if got, code := impl.StaleOf(list); !slices.Equal(got, wantStale) || code != wantCode {
		t.Fatal("StaleOf", short(list), got, code, "not", wantStale, wantCode)
	}
}

func objsIn(texts ...string) []obj {
	var list []obj
	for _, text := range texts {
		list = append(list, objIn(text))
	}
	return list
}

// Replicas, what they make together, and the places of those that are not that.
type merge struct {
	list  []string
	want  string
	stale []int
}

func (m merge) ask(t *testing.T) {
	t.Helper()
	list := objsIn(m.list...)
	if got, code := impl.MergeAll(list); objTold(got) != m.want || code != impl.OK {
		t.Error("MergeAll", m.list, objTold(got), code, "not", m.want)
	}
	if got, code := impl.StaleOf(list); !slices.Equal(got, m.stale) || code != impl.OK {
		t.Error("StaleOf", m.list, got, code, "not", m.stale)
	}
	mergesAsTold(t, list...)
}

func TestMergeAllAndStaleOf(t *testing.T) {
	for _, m := range []merge{
		{nil, "0.0.0", nil},
		{[]string{"0.0.0"}, "0.0.0", nil},
		{[]string{"1.0.0|a1=5"}, "1.0.0|a1=5", nil},
		{[]string{"3.0.7"}, "3.0.7", nil},
		{[]string{"9.9.9|a2!|a7=0|b1=999|c9!"}, "9.9.9|a2!|a7=0|b1=999|c9!", nil},
		// alike
		{[]string{"1.3.0|a1=5|b3=6", "1.3.0|a1=5|b3=6"}, "1.3.0|a1=5|b3=6", nil},
		{[]string{"1.3.0|a1=5|b3!", "1.3.0|a1=5|b3!", "1.3.0|a1=5|b3!"}, "1.3.0|a1=5|b3!", nil},
		// none of them is what all make
		{[]string{"1.0.0|a1=5", "0.1.0|b1=5"}, "1.1.0|a1=5|b1=5", []int{0, 1}},
		{[]string{"1.3.0|a1=5|b3=6", "1.3.1|c1=7", "2.0.0|a2=8"}, "2.3.1|a2=8|c1=7", []int{0, 1, 2}},
		{[]string{"1.0.0|a1=5", "0.1.0|b1!", "0.0.1|c1=7"}, "1.1.1|a1=5|b1!|c1=7", []int{0, 1, 2}},
		{[]string{"2.0.0|a1=5", "2.0.0|a2=6"}, "2.0.0", []int{0, 1}},
		// one of them, or two, are
		{[]string{"1.3.0|a1=5|b3=6", "1.3.1|c1=7"}, "1.3.1|c1=7", []int{0}},
		{[]string{"1.3.1|c1=7", "1.3.0|a1=5|b3=6"}, "1.3.1|c1=7", []int{1}},
		{[]string{"1.0.0|a1=5", "2.0.0|a2=6", "1.0.0|a1=5"}, "2.0.0|a2=6", []int{0, 2}},
		{[]string{"2.0.0|a2=6", "1.0.0|a1=5", "2.0.0|a2=6"}, "2.0.0|a2=6", []int{1}},
		{[]string{"1.0.0|a1=5", "2.0.0|a2!", "2.0.0|a2!"}, "2.0.0|a2!", []int{0}},
		{[]string{"2.0.0|a2!", "2.0.0|a2!", "1.0.0|a1=5"}, "2.0.0|a2!", []int{2}},
		// what only the last one has, and what only the last one knows to be gone
		{[]string{"1.0.0|a1=5", "1.0.0|a1=5", "1.1.0|a1=5|b1=6"}, "1.1.0|a1=5|b1=6", []int{0, 1}},
		{[]string{"1.0.0|a1=5", "1.1.0|a1=5|b1=6", "1.1.0"}, "1.1.0", []int{0, 1}},
		// the first that has an event tells its value
		{[]string{"1.0.0|a1=5", "1.0.0|a1=6"}, "1.0.0|a1=5", []int{1}},
		{[]string{"1.0.0|a1=6", "1.0.0|a1=5", "1.0.0|a1!"}, "1.0.0|a1=6", []int{1, 2}},
		{[]string{"0.0.0", "1.0.0|a1!", "1.0.0|a1=5"}, "1.0.0|a1!", []int{0, 2}},
	} {
		m.ask(t)
	}
}

// Who knows nothing brings nothing, takes nothing away, and is stale beside any that know something.
func TestReplicasThatKnowNothing(t *testing.T) {
	nothing := obj{}
	for _, list := range [][]obj{nil, {}, {nothing}, {nothing, nothing}, {nothing, nothing, nothing}, {{Sibs: []sibling{}}, nothing}} {
		merged, code := impl.MergeAll(list)
		stale, staleCode := impl.StaleOf(list)
		if !isZero(merged) || code != impl.OK || len(stale) != 0 || staleCode != impl.OK {
			t.Error("nothing but nothing", list, merged, code, stale, staleCode)
		}
	}
	for i, o := range rightObjs() {
		if isZero(o) {
			continue
		}
		for _, c := range []struct {
			list  []obj
			stale []int
		}{
			{[]obj{nothing, o}, []int{0}},
			{[]obj{o, nothing}, []int{1}},
			{[]obj{nothing, nothing, o}, []int{0, 1}},
			{[]obj{nothing, o, nothing}, []int{0, 2}},
			{[]obj{o, nothing, nothing}, []int{1, 2}},
			{[]obj{o, nothing, o}, []int{1}},
			{[]obj{nothing, o, o}, []int{0}},
		} {
			if got, code := impl.MergeAll(c.list); !alike(got, o) || code != impl.OK {
				t.Error("MergeAll", i, short(got), code)
			}
			if got, code := impl.StaleOf(c.list); !slices.Equal(got, c.stale) || code != impl.OK {
				t.Error("StaleOf", i, got, code, "not", c.stale)
			}
		}
	}
}

// What is known and not there is gone, whoever has it; a replica without siblings is stale only if it knows less.
func TestReplicasThatKnowMoreThanTheyHave(t *testing.T) {
	for _, m := range []merge{
		{[]string{"1.0.0|a1=5", "1.0.0"}, "1.0.0", []int{0}},
		{[]string{"1.0.0", "1.0.0|a1=5"}, "1.0.0", []int{1}},
		{[]string{"3.0.7", "0.2.0"}, "3.2.7", []int{0, 1}},
		{[]string{"3.2.7", "0.2.0", "3.0.7"}, "3.2.7", []int{1, 2}},
		{[]string{"0.0.0", "3.0.7", "0.0.0"}, "3.0.7", []int{0, 2}},
		{[]string{"1.0.0|a1=5", "9.0.0", "0.4.0|b4!"}, "9.4.0|b4!", []int{0, 1, 2}},
		{[]string{"5.5.0|a2=2|a5=5|b4!", "4.9.9"}, "5.9.9|a5=5", []int{0, 1}},
		{[]string{"9999.9999.9999", "9999.9999.9999|a9999=5|b1!|c9999=999"}, "9999.9999.9999", []int{1}},
		{[]string{"9999.0.9999|c9999=1", "9998.9999.0|a9998=1|b9999=999"}, "9999.9999.9999|b9999=999|c9999=1", []int{0, 1}},
	} {
		m.ask(t)
	}
}

// All choices of three of the right objects: some of them are of histories that do not go together.
func TestMergesOfAllKinds(t *testing.T) {
	objs := rightObjs()
	for _, a := range objs {
		mergesAsTold(t, a)
		for _, b := range objs {
			mergesAsTold(t, a, b)
			for _, c := range objs {
				mergesAsTold(t, a, b, c)
			}
		}
	}
}

// Of two and of three replicas, one by one: as long as there is room on the way, Join makes the same.
func TestMergeAllIsJoinOfAll(t *testing.T) {
	objs := rightObjs()
	for _, a := range objs {
		for _, b := range objs {
			two, code := impl.Join(a, b)
			if code != impl.OK {
				continue
			}
			if got, code := impl.MergeAll([]obj{a, b}); !alike(got, two) || code != impl.OK {
				t.Fatal("MergeAll", short(a), short(b), short(got), code)
			}
			for _, c := range objs {
				want, wantCode := impl.Join(two, c)
				if got, code := impl.MergeAll([]obj{a, b, c}); !alike(got, want) || code != wantCode {
					t.Fatal("MergeAll", short(a), short(b), short(c), short(got), code, "not", wantCode)
				}
			}
		}
	}
}

func TestMergesOfManySiblings(t *testing.T) {
	part := func(node, many int) obj {
		var seen vv
		seen[node] = many
		return object(seen, run(node, 1, many)...)
	}
	full := part(0, impl.MaxSibs)
	for i, c := range []struct {
		list       []obj
		sibs, code int
	}{
		{[]obj{full}, impl.MaxSibs, impl.OK},
		{[]obj{full, full, full}, impl.MaxSibs, impl.OK},
		{[]obj{full, {}, object(vv{0, 7, 7})}, impl.MaxSibs, impl.OK},
		{[]obj{part(0, 50), part(1, 50)}, impl.MaxSibs, impl.OK},
		{[]obj{part(0, 50), part(1, 51)}, 0, impl.ErrMany},
		{[]obj{part(0, 34), part(1, 33), part(2, 33)}, impl.MaxSibs, impl.OK},
		{[]obj{part(0, 34), part(1, 33), part(2, 34)}, 0, impl.ErrMany},
		{[]obj{full, part(1, 1)}, 0, impl.ErrMany},
		{[]obj{part(1, 1), full}, 0, impl.ErrMany},
		{[]obj{full, part(1, impl.MaxSibs), part(2, impl.MaxSibs)}, 0, impl.ErrMany},
		// it knows one of them, and brings one, or two
		{[]obj{full, object(vv{1, 1}, live(1, 1, 1))}, impl.MaxSibs, impl.OK},
		{[]obj{full, object(vv{1, 2}, run(1, 1, 2)...)}, 0, impl.ErrMany},
		// too many of two, but the third one knows that enough of them are gone
		{[]obj{full, part(1, 1), object(vv{1})}, impl.MaxSibs, impl.OK},
		{[]obj{full, object(vv{1}), part(1, 1)}, impl.MaxSibs, impl.OK},
		{[]obj{object(vv{1}), full, part(1, 1)}, impl.MaxSibs, impl.OK},
		{[]obj{full, part(1, 2), object(vv{1})}, 0, impl.ErrMany},
		{[]obj{full, part(1, impl.MaxSibs), object(vv{impl.MaxSibs, impl.MaxSibs, 3}, live(2, 3, 3))}, 1, impl.OK},
	} {
		merged, code := impl.MergeAll(c.list)
		if code != c.code || len(merged.Sibs) != c.sibs || code == impl.OK && !impl.ObjOK(merged) {
			t.Error("MergeAll", i, len(merged.Sibs), merged.Seen, code)
		}
		mergesAsTold(t, c.list...)
	}
}

// refused asks that both calls on a list answer that code and nothing beside it.
func refused(t *testing.T, list []obj, want int) {
	t.Helper()
	if got, code := impl.MergeAll(list); !isZero(got) || code != want {
		t.Error("MergeAll", len(list), short(list), short(got), code, "not", want)
	}
	if got, code := impl.StaleOf(list); len(got) != 0 || code != want {
		t.Error("StaleOf", len(list), short(list), got, code, "not", want)
	}
}

func TestMergesOfWrongReplicas(t *testing.T) {
	right := []obj{{}, objIn("1.3.0|a1=5|b3=6"), object(vv{impl.MaxSibs}, run(0, 1, impl.MaxSibs)...)}
	for _, wrong := range wrongObjs() {
		refused(t, []obj{wrong}, impl.ErrBad)
		refused(t, []obj{wrong, wrong, wrong}, impl.ErrBad)
		for _, a := range right {
			refused(t, []obj{a, wrong}, impl.ErrBad)
			refused(t, []obj{wrong, a}, impl.ErrBad)
			for _, b := range right {
				refused(t, []obj{a, b, wrong}, impl.ErrBad)
				refused(t, []obj{a, wrong, b}, impl.ErrBad)
				refused(t, []obj{wrong, a, b}, impl.ErrBad)
			}
		}
	}
	// a replica that is not right comes ahead of siblings that have no room
	first, second := object(vv{60}, run(0, 1, 60)...), object(vv{0, 60}, run(1, 1, 60)...)
	refused(t, []obj{first, second}, impl.ErrMany)
	refused(t, []obj{first, second, {Seen: vv{-1}}}, impl.ErrBad)
	refused(t, []obj{first, second, {}}, impl.ErrMany)
}

// Too many replicas come ahead of one that is not right, and too long a list ahead of too many.
func TestMergesOfTooManyReplicas(t *testing.T) {
	right, wrong := objIn("1.3.0|a1=5|b3=6"), obj{Seen: vv{0, 0, -1}}
	for choice := range 16 {
		list := make([]obj, 4)
		for i := range list {
			list[i] = right
			if choice>>i&1 == 1 {
				list[i] = wrong
			}
		}
		refused(t, list, impl.ErrMany)
		if choice < 8 {
			refused(t, slices.Concat(list[:3], make([]obj, impl.MaxList-3)), impl.ErrMany)
			refused(t, slices.Concat(list[:3], make([]obj, impl.MaxList-2)), impl.ErrLong)
		}
	}
	for _, many := range []int{4, 5, 100, impl.MaxList} {
		refused(t, make([]obj, many), impl.ErrMany)
		refused(t, slices.Repeat([]obj{right}, many), impl.ErrMany)
		refused(t, slices.Repeat([]obj{wrong}, many), impl.ErrMany)
	}
	for _, many := range []int{impl.MaxList + 1, 2 * impl.MaxList} {
		refused(t, make([]obj, many), impl.ErrLong)
		refused(t, slices.Repeat([]obj{wrong}, many), impl.ErrLong)
	}
	mergesAsTold(t, right, right, right)
}

func TestQuorumMeets(t *testing.T) {
	for n := 1; n <= 100; n++ {
		for r := -1; r <= n+1; r++ {
			for w := -1; w <= n+1; w++ {
				want, wantCode := r+w > n, impl.OK
				if r < 0 || w < 0 || r > n || w > n {
					want, wantCode = false, impl.ErrRange
				}
				if got, code := impl.QuorumMeets(n, r, w); got != want || code != wantCode {
					t.Fatal("QuorumMeets", n, r, w, got, code)
				}
			}
		}
	}
}

func TestQuorumsAtTheEdges(t *testing.T) {
	for _, c := range []struct {
		n, r, w int
		want    bool
		code    int
	}{
		{1, 0, 0, false, impl.OK},
		{1, 0, 1, false, impl.OK},
		{1, 1, 0, false, impl.OK},
		{1, 1, 1, true, impl.OK},
		{1, 1, 2, false, impl.ErrRange},
		{1, 2, 0, false, impl.ErrRange},
		{2, 1, 1, false, impl.OK},
		{2, 2, 1, true, impl.OK},
		{3, 1, 2, false, impl.OK},
		{3, 2, 2, true, impl.OK},
		{3, 3, 0, false, impl.OK},
		{100, 0, 100, false, impl.OK},
		{100, 100, 0, false, impl.OK},
		{100, 1, 100, true, impl.OK},
		{100, 50, 50, false, impl.OK},
		{100, 50, 51, true, impl.OK},
		{100, 100, 100, true, impl.OK},
		{100, 101, 1, false, impl.ErrRange},
		{100, 1, 101, false, impl.ErrRange},
		{100, -1, 100, false, impl.ErrRange},
		{100, 100, -1, false, impl.ErrRange},
		{101, 51, 51, false, impl.ErrRange},
		{101, 0, 0, false, impl.ErrRange},
		{0, 0, 0, false, impl.ErrRange},
		{0, 1, 1, false, impl.ErrRange},
		{-1, 0, 0, false, impl.ErrRange},
	} {
		if got, code := impl.QuorumMeets(c.n, c.r, c.w); got != c.want || code != c.code {
			t.Error("QuorumMeets", c.n, c.r, c.w, got, code)
		}
	}
	// Numbers whose sums wrap, and whose lower halves alone would be in their bounds.
	far := []int{math.MinInt, math.MinInt + 1, math.MinInt + 3, -1 << 32, -101, -1, 101, 1 << 32, 1<<32 + 2, math.MaxInt - 1, math.MaxInt}
	near := []int{0, 1, 2, 3, 100}
	for _, a := range far {
		for _, b := range slices.Concat(near, far) {
			for _, c := range slices.Concat(near, far) {
				for _, p := range [][3]int{{a, b, c}, {b, a, c}, {b, c, a}} {
					if got, code := impl.QuorumMeets(p[0], p[1], p[2]); got || code != impl.ErrRange {
						t.Fatal("QuorumMeets", p, got, code)
					}
				}
			}
		}
	}
}

func TestReplyText(t *testing.T) {
	for _, c := range []struct{ obj, want string }{
		{"0.0.0", "0.0.0"},
		{"3.0.7", "3.0.7"},
		{"9999.9999.9999", "9999.9999.9999"},
		{"1.0.0|a1=5", "1.0.0 5"},
		{"1.0.0|a1=0", "1.0.0 0"},
		{"0.0.9999|c9999=999", "0.0.9999 999"},
		{"2.3.1|a2=8|c1=7", "2.3.1 8 7"},
		{"2.3.1|a2=7|c1=8", "2.3.1 7 8"},
		// dead ones have no value
		{"1.0.0|a1!", "1.0.0"},
		{"2.1.1|a1!|a2!|b1!|c1!", "2.1.1"},
		{"2.1.1|a1!|a2=6|b1!|c1=0", "2.1.1 6 0"},
		{"2.1.1|a1=6|a2!|b1=0|c1!", "2.1.1 6 0"},
		// the same value twice is told twice
		{"2.0.0|a1=5|a2=5", "2.0.0 5 5"},
		{"2.1.1|a1=5|a2!|b1=5|c1=5", "2.1.1 5 5 5"},
		{"9.9.9|a1=9|a2=3|b1=9|c1=0|c9=0", "9.9.9 9 3 9 0 0"},
	} {
		if got, code := impl.ReplyText(objIn(c.obj)); got != c.want || code != impl.OK {
			t.Errorf("ReplyText of %s: %q, %d, not %q", c.obj, got, code, c.want)
		}
	}
}

func TestReplyTextOfAllKinds(t *testing.T) {
	for i, o := range rightObjs() {
		want := vvTold(o.Seen)
		for _, s := range o.Sibs {
			if !s.Dead {
				want += fmt.Sprintf(" %d", s.Value)
			}
		}
		if got, code := impl.ReplyText(o); got != want || code != impl.OK {
			t.Errorf("ReplyText %d: %q, %d, not %q", i, got, code, want)
		}
	}
	many := object(vv{0, impl.MaxDot}, run(1, impl.MaxDot-impl.MaxSibs+1, impl.MaxDot)...)
	if got, code := impl.ReplyText(many); strings.Count(got, " ") != impl.MaxSibs || code != impl.OK {
		t.Error("ReplyText of many", got, code)
	}
	for i, o := range wrongObjs() {
		if got, code := impl.ReplyText(o); got != "" || code != impl.ErrBad {
			t.Error("ReplyText of a wrong one", i, got, code)
		}
	}
}
