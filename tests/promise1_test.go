package tests

import (
	"fmt"
	"math"
	"slices"
	"strings"
	"sync"
	"testing"

	"loop.example/g00535/impl"
)

// Promise 1. A call tells its answers as a text, so that calls of all kinds can be asked in any order and held against
// each other. What is handed in as texts, numbers, arrays and structs of these no call can change; of lists
// memory_test.go asks it.
type call func() string

func told(name string, answers ...any) string { return name + fmt.Sprintln(answers...) }

func callsOfCodes() []call {
	var all []call
	for _, text := range []string{"", "a", "ok", "closed", "_9", "9", "\xff", strings.Repeat("n", impl.MaxName),
		strings.Repeat("n", impl.MaxName+1), strings.Repeat("a", impl.MaxText+1)} {
		all = append(all,
			func() string { return told("NameOK", impl.NameOK(text)) },
			func() string { return told("CodeOf", impl.CodeOf(text)) })
	}
	for _, n := range []int{math.MinInt, -1, 0, 19, 20, math.MaxInt} {
		all = append(all, func() string { return told("CodeWord", impl.CodeWord(n)) })
	}
	return all
}

func callsOfVvs(a, b vv) []call {
	return []call{
		func() string { return told("VvOK", impl.VvOK(a)) },
		func() string { v, code := impl.VvMax(a, b); return told("VvMax", v, code) },
		func() string { v, code := impl.VvMin(a, b); return told("VvMin", v, code) },
		func() string { k, code := impl.VvOrder(a, b); return told("VvOrder", k, code) },
	}
}

func callsOfVvAndDot(v vv, d dot) []call {
	return []call{
		func() string { has, code := impl.VvHas(v, d); return told("VvHas", has, code) },
		func() string { more, code := impl.VvAdd(v, d); return told("VvAdd", more, code) },
	}
}

func callsOfDots(a, b dot) []call {
	return []call{
		func() string { return told("DotOK", impl.DotOK(a)) },
		func() string { k, code := impl.OrderDots(a, b); return told("OrderDots", k, code) },
	}
}

func callsOfObjs(a, b obj) []call {
	return []call{
		func() string { o, code := impl.Join(a, b); return told("Join", o, code) },
		func() string { covers, code := impl.Covers(a, b); return told("Covers", covers, code) },
		func() string { return told("SameObj", impl.SameObj(a, b)) },
	}
}

func callsOfObj(o obj) []call {
	all := []call{
		func() string { return told("ObjOK", impl.ObjOK(o)) },
		func() string { list, code := impl.LiveValues(o); return told("LiveValues", list, code) },
		func() string { text, code := impl.ObjText(o); return told("ObjText", text, code) },
	}
	for _, ctx := range []vv{{}, {5, 5, 0}, o.Seen, {impl.MaxDot, impl.MaxDot, impl.MaxDot}, {0, -1}} {
		all = append(all, func() string { covered, code := impl.Covered(o, ctx); return told("Covered", covered, code) })
		for _, s := range []sibling{live(0, 1, 5), tomb(1, 5), live(2, 9, impl.MaxValue+1), {}} {
			all = append(all, func() string {
				more, code := impl.Write(o, ctx, s.Dot, s.Value, s.Dead)
				return told("Write", more, code)
			})
		}
	}
	return all
}

func callsOfTexts() []call {
	var all []call
	for _, text := range []string{"", "a1", "b07", "c9999", "a10000", "d1", "0.0.0", "3.0.7", "3.0", "3.00.7", "1.0.0|a1=0", "2.3.1|a2=8|c1!",
		"2.3.1|c1!|a2=8", "2.3.1|a2", "0.0.1|c1!", "0.0.1|c1!\xff", "\xff", "a" + strings.Repeat("9", 100),
		strings.Repeat("0", impl.MaxText), strings.Repeat("0", impl.MaxText+1)} {
		all = append(all,
			func() string { d, code := impl.ReadDot(text); return told("ReadDot", d, code) },
			func() string { v, code := impl.ReadVv(text); return told("ReadVv", v, code) },
			func() string { o, code := impl.ReadObj(text); return told("ReadObj", o, code) })
	}
	return all
}

func callsOfLines() []call {
	var all []call
	for _, text := range []string{"", "ab", "0:0:", "2:296:ab", "2:297:ab", "02:296:ab", "2:296", ":", "::", "\xff", "1:256:\xff",
		strings.Repeat("9", 100) + ":0:", strings.Repeat("0", impl.MaxText), strings.Repeat("0", impl.MaxText+1)} {
		all = append(all,
			func() string { return told("SumOf", impl.SumOf(text)) },
			func() string { line, code := impl.SealLine(text); return told("SealLine", line, code) },
			func() string { back, code := impl.OpenLine(text); return told("OpenLine", back, code) })
	}
	return all
}

func callsOfDisk(d disk) []call {
	all := []call{
		func() string { return told("DiskOK", impl.DiskOK(d)) },
		func() string { x, code := impl.Sync(d); return told("Sync", x, code) },
		func() string { texts, code := impl.Recover(d); return told("Recover", texts, code) },
	}
	for _, text := range []string{"", "ab", strings.Repeat("x", impl.MaxText+1)} {
		all = append(all, func() string { x, code := impl.Append(d, text); return told("Append", x, code) })
	}
	for _, n := range [][2]int{{0, 0}, {0, 5}, {1, 0}, {1, impl.MaxText}, {impl.MaxRecords, 1}, {-1, 0}, {0, impl.MaxText + 1}, {math.MaxInt, math.MinInt}} {
		all = append(all, func() string { x, code := impl.CrashDisk(d, n[0], n[1]); return told("CrashDisk", x, code) })
	}
	return all
}

func callsOfNode(x node) []call {
	all := []call{
		func() string { return told("NodeOK", impl.NodeOK(x)) },
		func() string { y, code := impl.SyncNode(x); return told("SyncNode", y, code) },
		func() string { keys, code := impl.KeysOf(x); return told("KeysOf", keys, code) },
		func() string { sums, code := impl.Digest(x); return told("Digest", sums, code) },
	}
	for _, bucket := range []int{math.MinInt, -1, 0, 1, 2, 3, 4, math.MaxInt} {
		all = append(all, func() string { keys, code := impl.KeysIn(x, bucket); return told("KeysIn", keys, code) })
	}
	for _, n := range [][2]int{{0, 0}, {0, 5}, {1, impl.MaxText}, {impl.MaxRecords, 1}, {-1, 0}, {0, math.MaxInt}} {
		all = append(all, func() string { y, code := impl.CrashNode(x, n[0], n[1]); return told("CrashNode", y, code) })
	}
	for _, key := range []string{"b", "k", "new", "", "B", strings.Repeat("a", impl.MaxText+1)} {
		all = append(all, func() string { o, code := impl.ObjAt(x, key); return told("ObjAt", o, code) })
		for _, ctx := range []vv{{}, {1, 0, 4}, {impl.MaxDot}, {0, -1}} {
			all = append(all,
				func() string { y, d, code := impl.PutNode(x, key, ctx, 5, false); return told("PutNode", y, d, code) },
				func() string { y, d, code := impl.PutNode(x, key, ctx, 5, true); return told("PutNode", y, d, code) },
				func() string { y, b, code := impl.JoinNode(x, key, object(ctx)); return told("JoinNode", y, b, code) })
		}
		all = append(all, func() string {
			y, brought, code := impl.JoinNode(x, key, object(vv{0, 2, 4}, live(1, 2, 7), tomb(2, 4)))
			return told("JoinNode", y, brought, code)
		})
	}
	return all
}

func callsOfNodes(t *testing.T) []call {
	nodes := append(rightNodes(t)[:10], wrongNodes(t)[:40]...)
	var all []call
	for i, x := range nodes {
		all = append(all, callsOfNode(x)...)
		for _, y := range append(nodes[:i:i], rightNodes(t)[12:]...) {
			all = append(all,
				func() string { buckets, code := impl.DiffBuckets(x, y); return told("DiffBuckets", buckets, code) },
				func() string { buckets, code := impl.DiffBuckets(y, x); return told("DiffBuckets", buckets, code) })
		}
	}
	return all
}

func callsOfKeys() []call {
	var all []call
	for _, key := range slices.Concat(rightKeys, wrongKeys, longKeys) {
		all = append(all, func() string { bucket, code := impl.BucketOf(key); return told("BucketOf", bucket, code) })
		all = append(all, callsOfRing(key)...)
	}
	return all
}

func callsOfRecords() []call {
	var all []call
	for _, id := range []int{math.MinInt, -1, 0, 1, 2, 3} {
		all = append(all, func() string { x, code := impl.NewNode(id); return told("NewNode", x, code) })
		for _, records := range [][]string{nil, someRecords, someRecords[:3], {""}, {"join k 0.0.0"}, {"join k 0.0.0|"}, {"cut 1"}, manyTexts(impl.MaxRecords),
			make([]string, impl.MaxRecords+1), make([]string, impl.MaxList+1)} {
			all = append(all, func() string { x, code := impl.ReplayNode(id, records); return told("ReplayNode", x, code) })
		}
	}
	return all
}

// Lists of replicas up to one too many, right and wrong ones, and one that is too long.
func callsOfReplicas(objs []obj) []call {
	lists := [][]obj{nil, {}, make([]obj, impl.Nodes), make([]obj, impl.Nodes+1), make([]obj, impl.MaxList), make([]obj, impl.MaxList+1)}
	for i, a := range objs {
		b, c := objs[(i+3)%len(objs)], objs[(i+7)%len(objs)]
		lists = append(lists, []obj{a}, []obj{a, a}, []obj{a, b}, []obj{b, a}, []obj{a, b, c}, []obj{{}, c, a}, []obj{a, b, c, a})
	}
	var all []call
	for _, list := range lists {
		all = append(all,
			func() string { o, code := impl.MergeAll(list); return told("MergeAll", o, code) },
			func() string { places, code := impl.StaleOf(list); return told("StaleOf", places, code) })
	}
	for _, o := range objs {
		all = append(all, func() string { text, code := impl.ReplyText(o); return told("ReplyText", text, code) })
	}
	return all
}

func callsOfQuorums() []call {
	var all []call
	for _, n := range []int{math.MinInt, -1, 0, 1, 3, 100, 101, math.MaxInt} {
		for _, r := range []int{math.MinInt, -1, 0, 1, n / 2, n, n + 1, math.MaxInt} {
			for _, w := range []int{math.MinInt, -1, 0, 1, n / 2, n, n + 1, math.MaxInt} {
				all = append(all, func() string { meets, code := impl.QuorumMeets(n, r, w); return told("QuorumMeets", meets, code) })
			}
		}
	}
	return all
}

func callsOfClusters(t *testing.T) []call {
	var all []call
	for _, c := range clustersOfAllKinds(t) {
		all = append(all, func() string { return told("ClusterOK", impl.ClusterOK(c)) })
		for _, a := range actsOfAllKinds() {
			all = append(all, func() string { got := a.ask(c); return told(a.name, got.Cluster, got.Obj, got.bare()) })
		}
	}
	return all
}

// Right and wrong arguments, each with each.
func someCalls(t *testing.T) []call {
	all := slices.Concat(callsOfCodes(), callsOfTexts(), callsOfLines(), callsOfRecords(), callsOfNodes(t), callsOfKeys(), callsOfQuorums(), callsOfClusters(t), callsOfFeeds(t), callsOfViews(t), callsOfEvents(), callsOfWorlds(t), callsOfAudits(t), callsOfConsoles(t))
	for _, d := range append(rightDisks(), wrongDisks()...) {
		all = append(all, callsOfDisk(d)...)
	}
	vs := append(wrongVvs(), vv{}, vv{3, 0, 7}, vv{1, 2, 7}, vv{impl.MaxDot, impl.MaxDot, impl.MaxDot})
	ds := append(slices.Clone(wrongDots), dot{Node: 0, N: 1}, dot{Node: 1, N: 5}, dot{Node: 2, N: impl.MaxDot})
	for _, v := range vs {
		all = append(all, func() string { text, code := impl.VvText(v); return told("VvText", text, code) })
		for _, u := range vs {
			all = append(all, callsOfVvs(v, u)...)
		}
		for _, d := range ds {
			all = append(all, callsOfVvAndDot(v, d)...)
		}
	}
	for _, d := range ds {
		all = append(all, func() string { text, code := impl.DotText(d); return told("DotText", text, code) })
		for _, e := range ds {
			all = append(all, callsOfDots(d, e)...)
		}
	}
	objs := append(rightObjs(), wrongObjs()[:20]...)
	all = append(all, callsOfReplicas(objs)...)
	for _, a := range objs {
		all = append(all, callsOfObj(a)...)
		for _, b := range objs {
			all = append(all, callsOfObjs(a, b)...)
		}
	}
	return all
}

func TestAlikeArgumentsHaveAlikeAnswers(t *testing.T) {
	calls := someCalls(t)
	first := make([]string, len(calls))
	for i, c := range calls {
		first[i] = c()
	}
	for i, c := range slices.Backward(calls) {
		if again := c(); again != first[i] {
			t.Errorf("call %d backwards: %s, not %s", i, again, first[i])
		}
	}
	var all sync.WaitGroup
	for range 4 {
		all.Go(func() {
			for i, c := range calls {
				if again := c(); again != first[i] {
					t.Errorf("call %d beside others: %s, not %s", i, again, first[i])
				}
			}
		})
	}
	all.Wait()
}
