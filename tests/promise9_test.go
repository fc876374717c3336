package tests

import (
	"math/bits"
	"slices"
	"testing"

	"loop.example/g00535/impl"
)

// Promise 9: what is merged covers each replica; where quorums meet some replica that wrote is read.

// coveredByMerge asks it of a list, and that those are stale, and they alone, that the merge would change.
func coveredByMerge(t *testing.T, list ...obj) obj {
	t.Helper()
	merged, code := impl.MergeAll(list)
	stale, staleCode := impl.StaleOf(list)
	if code != impl.OK || staleCode != impl.OK || !impl.ObjOK(merged) {
		t.Fatal("MergeAll", short(list), short(merged), code, staleCode)
	}
	for place, o := range list {
		if covers, code := impl.Covers(merged, o); !covers || code != impl.OK || !coversTold(merged, o) {
			t.Fatal("not covered", short(list), place, short(merged))
		}
		if slices.Contains(stale, place) == alike(o, merged) {
			t.Fatal("StaleOf", short(list), place, stale, short(merged))
		}
	}
	return merged
}

// All choices of three replicas of one object, each of which knows some of its events, and has some of those it knows.
func TestWhatIsMergedCoversEachReplica(t *testing.T) {
	all := smallReplicas(vv{2, 1, 1})
	coveredByMerge(t)
	for _, a := range all {
		coveredByMerge(t, a)
		for _, b := range all {
			two := coveredByMerge(t, a, b)
			for _, c := range all {
				three := coveredByMerge(t, a, b, c)
				// the third one brings to what two made what it brings to them
				if !alike(three, mergeTold([]obj{two, c})) {
					t.Fatal("no merge of a merge", a, b, c, three)
				}
			}
		}
	}
}

// Replicas that were never of one object, too, as long as there is room.
func TestMergesOfStrangersCoverThem(t *testing.T) {
	objs := append(rightObjs(), objsIn("1.0.0|a1=5", "1.0.0|a1=6", "1.0.0|a1!", "1.3.0|a1!|b3=5")...)
	for _, a := range objs {
		for _, b := range objs {
			for _, c := range objs {
				for _, list := range [][]obj{{a}, {a, b}, {a, b, c}} {
					if len(mergeTold(list).Sibs) <= impl.MaxSibs {
						coveredByMerge(t, list...)
					}
				}
			}
		}
	}
}

// What was merged once merges to itself, in any order, beside those of whom it was made; then none but these are stale.
func TestReplicasOfOneHistoryMerged(t *testing.T) {
	orders := [][3]int{{0, 1, 2}, {0, 2, 1}, {1, 0, 2}, {1, 2, 0}, {2, 0, 1}, {2, 1, 0}}
	for seed := range uint32(200) {
		h := history{state: seed}
		for range 40 {
			node := h.draw(impl.Nodes)
			if h.draw(3) > 0 {
				h.write(t, node)
			} else {
				h.replicas[node] = coveredByMerge(t, h.replicas[node], h.replicas[h.draw(impl.Nodes)])
			}
		}
		merged := coveredByMerge(t, h.replicas[:]...)
		if !alike(merged, h.has(merged.Seen)) {
			t.Fatal("seed", seed, h.events, merged)
		}
		for _, order := range orders {
			if again := coveredByMerge(t, h.replicas[order[0]], h.replicas[order[1]], h.replicas[order[2]]); !alike(again, merged) {
				t.Fatal("seed", seed, "order", order, again, merged)
			}
		}
		for _, o := range h.replicas {
			if again := coveredByMerge(t, o, merged, o); !alike(again, merged) {
				t.Fatal("seed", seed, o, again, merged)
			}
		}
		if stale, code := impl.StaleOf([]obj{merged, merged, merged}); len(stale) != 0 || code != impl.OK {
			t.Fatal("seed", seed, stale, code)
		}
	}
}

func meets(t *testing.T, n, r, w int) bool {
	t.Helper()
	yes, code := impl.QuorumMeets(n, r, w)
	if code != impl.OK {
		t.Fatal("QuorumMeets", n, r, w, code)
	}
	return yes
}

// All choices of those that read and those that wrote: quorums meet just if each choice has one of both.
func TestQuorumsThatMeetHaveOneOfBoth(t *testing.T) {
	for n := 1; n <= 7; n++ {
		var apart [8][8]bool
		for read := range 1 << n {
			for wrote := range 1 << n {
				r, w := bits.OnesCount(uint(read)), bits.OnesCount(uint(wrote))
				if read&wrote != 0 {
					continue
				}
				apart[r][w] = true
				if meets(t, n, r, w) {
					t.Fatalf("%d replicas: %b read, %b wrote", n, read, wrote)
				}
			}
		}
		for r := range n + 1 {
			for w := range n + 1 {
				if meets(t, n, r, w) == apart[r][w] {
					t.Fatal("QuorumMeets", n, r, w)
				}
			}
		}
	}
}

// Of many: the first ones read, the last ones wrote, so that as few as can be did both.
func TestQuorumsOfManyReplicas(t *testing.T) {
	for n := 1; n <= 100; n++ {
		for r := range n + 1 {
			for w := range n + 1 {
				both := 0
				for i := range n {
					if i < r && i >= n-w {
						both++
					}
				}
				if meets(t, n, r, w) != (both > 0) {
					t.Fatal("QuorumMeets", n, r, w)
				}
			}
		}
	}
}

// chosen has those of the list whose bit is set.
func chosen(list []obj, choice int) []obj {
	var some []obj
	for i, o := range list {
		if choice>>i&1 == 1 {
			some = append(some, o)
		}
	}
	return some
}

// Some replicas get a write, some are read: where the quorums meet the merge of those that are read covers the write.
func TestAWriteIsReadWhereQuorumsMeet(t *testing.T) {
	old := objIn("1.3.0|a1=5|b3=6")
	for _, ctx := range []vv{{}, {1}, old.Seen} {
		written, code := impl.Write(old, ctx, dot{Node: 2, N: 1}, 7, false)
		if code != impl.OK {
			t.Fatal("Write", ctx, code)
		}
		for n := 1; n <= impl.Nodes; n++ {
			for wrote := range 1 << n {
				replicas := slices.Repeat([]obj{old}, n)
				for i := range n {
					if wrote>>i&1 == 1 {
						replicas[i] = written
					}
				}
				for read := range 1 << n {
					merged := coveredByMerge(t, chosen(replicas, read)...)
					covers, code := impl.Covers(merged, written)
					if code != impl.OK || covers != (read&wrote != 0) {
						t.Fatalf("Covers: %b wrote, %b read: %v, %v, %d", wrote, read, merged, covers, code)
					}
					if !covers && meets(t, n, bits.OnesCount(uint(read)), bits.OnesCount(uint(wrote))) {
						t.Fatalf("%d replicas: %b wrote, %b read: %v", n, wrote, read, merged)
					}
				}
			}
		}
	}
}
