package tests

import (
	"fmt"
	"math"
	"slices"
	"strconv"
	"strings"
	"testing"

	"loop.example/g00535/impl"
)

type (
	group = impl.Group
	batch = impl.Batch
)

const newestEpoch = 1000000

// Empty lists and nil are the same.
func alikeGroups(a, b group) bool {
	return a.Epoch == b.Epoch && a.Owner == b.Owner && a.Acked == b.Acked && slices.Equal(a.Stream, b.Stream)
}

func alikeBatches(a, b batch) bool {
	return a.Epoch == b.Epoch && a.Node == b.Node && a.Resync == b.Resync && slices.Equal(a.Entries, b.Entries)
}

func copyOfGroup(g group) group {
	g.Stream = slices.Clone(g.Stream)
	return g
}

// dotsOf has the events of one node from the first to the last one.
func dotsOf(id, first, last int) []dot {
	var dots []dot
	for n := first; n <= last; n++ {
		dots = append(dots, dot{Node: id, N: n})
	}
	return dots
}

// dotsIn reads events like a1 and b2.
func dotsIn(texts ...string) []dot {
	var dots []dot
	for _, text := range texts {
		dots = append(dots, dotIn(text))
	}
	return dots
}

// groupRight takes the stream apart by nodes: of each of them the numbers must be such that sorting them, and leaving out
// what is there twice, changes nothing.
func groupRight(g group) bool {
	right := g.Epoch >= 1 && g.Epoch <= newestEpoch && g.Owner >= 0 && g.Owner <= 2 && len(g.Stream) <= 4096
	for _, n := range g.Acked {
		right = right && n >= 0 && n <= 9999
	}
	numbers := map[int][]int{}
	for _, d := range g.Stream {
		numbers[d.Node] = append(numbers[d.Node], d.N)
	}
	for id, list := range numbers {
		if !right || id < 0 || id > 2 {
			return false
		}
		rising := slices.Compact(slices.Sorted(slices.Values(list)))
		right = slices.Equal(list, rising) && list[0] >= 1 && list[len(list)-1] <= g.Acked[id]
	}
	return right
}

// A given node is told right or wrong by whoever made it.
type givenNode struct {
	node
	right bool
}

func rightOnes(nodes ...node) []givenNode {
	var all []givenNode
	for _, x := range nodes {
		all = append(all, givenNode{x, true})
	}
	return all
}

func wrongOnes(nodes ...node) []givenNode {
	var all []givenNode
	for _, x := range nodes {
		all = append(all, givenNode{x, false})
	}
	return all
}

// What chapter 12 asks of each call, worked out from records and events one by one.

func takeoverTold(g group, owner int) (group, int) {
	switch {
	case !groupRight(g):
		return group{}, impl.ErrBad
	case owner != 0 && owner != 1 && owner != 2:
		return group{}, impl.ErrRange
	case g.Epoch == newestEpoch:
		return g, impl.ErrMany
	}
	return group{Epoch: g.Epoch + 1, Owner: owner, Acked: g.Acked, Stream: g.Stream}, impl.OK
}

// feedTold has the events of the node's put records behind the n-th, up to k of them.
func feedTold(x node, n, k int) []entry {
	var list []entry
	count := 0
	for _, record := range recordsIn(x) {
		m := objRecordForm.FindStringSubmatch(record)
		if m == nil || m[1] != "put" {
			continue
		}
		count++
		if count > n && len(list) < k {
			list = append(list, entry{Dot: dot{Node: x.Id, N: count}, Key: m[2]})
		}
	}
	return list
}

// cutOf is what the last record of a cut says.
func cutOf(x node) int {
	cut := 0
	for _, record := range recordsIn(x) {
		if n, found := strings.CutPrefix(record, "cut "); found {
			cut, _ = strconv.Atoi(n)
		}
	}
	return cut
}

func between(low, n, high int) bool { return low <= n && n <= high }

func feedAfterTold(x givenNode, n, k int) ([]entry, int) {
	switch {
	case !x.right:
		return nil, impl.ErrBad
	case !between(0, n, 9999) || !between(0, k, 300):
		return nil, impl.ErrRange
	case n < cutOf(x.node):
		return nil, impl.ErrCut
	}
	return feedTold(x.node, n, k), impl.OK
}

func pollTold(g group, x givenNode, k int) (batch, int) {
	switch {
	case !groupRight(g) || !x.right:
		return batch{}, impl.ErrBad
	case !between(0, k, 300):
		return batch{}, impl.ErrRange
	case g.Acked[x.Id] < cutOf(x.node):
		return batch{Resync: true}, impl.OK
	}
	return batch{Epoch: g.Epoch, Node: x.Id, Entries: feedTold(x.node, g.Acked[x.Id], k)}, impl.OK
}

func ackTold(g group, epoch int, d dot) (group, bool, int) {
	switch {
	case !groupRight(g) || !between(0, d.Node, 2) || !between(1, d.N, 9999):
		return group{}, false, impl.ErrBad
	case epoch != g.Epoch:
		return g, false, impl.ErrFenced
	case d.N <= g.Acked[d.Node]:
		return g, false, impl.OK
	case d.N > g.Acked[d.Node]+1:
		return g, false, impl.ErrOrder
	case len(g.Stream) == 4096:
		return g, false, impl.ErrFull
	}
	g.Acked[d.Node]++
	g.Stream = append(slices.Clone(g.Stream), d)
	return g, true, impl.OK
}

func resyncTold(g group, epoch int, x givenNode) (group, int) {
	switch {
	case !groupRight(g) || !x.right:
		return group{}, impl.ErrBad
	case epoch != g.Epoch:
		return g, impl.ErrFenced
	}
	if cut := cutOf(x.node); cut > g.Acked[x.Id] {
		g.Acked[x.Id] = cut
	}
	return g, impl.OK
}

func cutTold(t *testing.T, x givenNode, n int) (node, int) {
	t.Helper()
	switch {
	case !x.right:
		return node{}, impl.ErrBad
	case n <= cutOf(x.node) || n > len(feedTold(x.node, 0, math.MaxInt)):
		return x.node, impl.ErrRange
	case lines(x.Disk) == 300:
		return x.node, impl.ErrFull
	}
	return withRecord(t, x.node, fmt.Sprintf("cut %d", n)), impl.OK
}

// Each call, held against what is told; a right group or node stays right. They answer what the call did.

func takeoverAsTold(t *testing.T, g group, owner int) group {
	t.Helper()
	want, wantCode := takeoverTold(g, owner)
	got, code := impl.Takeover(g, owner)
	if !alikeGroups(got, want) || code != wantCode || wantCode == impl.OK && !impl.GroupOK(got) {
		t.Fatal("Takeover", short(g), owner, short(got), code, "not", short(want), wantCode)
	}
	return got
}

func feedAsTold(t *testing.T, x givenNode, n, k int) []entry {
	t.Helper()
	want, wantCode := feedAfterTold(x, n, k)
	got, code := impl.FeedAfter(x.node, n, k)
	if !slices.Equal(got, want) || code != wantCode {
		t.Fatal("FeedAfter", short(x), n, k, short(got), code, "not", short(want), wantCode)
	}
	return got
}

func pollAsTold(t *testing.T, g group, x givenNode, k int) batch {
	t.Helper()
	want, wantCode := pollTold(g, x, k)
	got, code := impl.Poll(g, x.node, k)
	if !alikeBatches(got, want) || code != wantCode {
		t.Fatal("Poll", short(g), short(x), k, short(got), code, "not", short(want), wantCode)
	}
	return got
}

func ackAsTold(t *testing.T, g group, epoch int, d dot) (group, bool) {
	t.Helper()
	want, wantNew, wantCode := ackTold(g, epoch, d)
	got, new, code := impl.Ack(g, epoch, d)
	if !alikeGroups(got, want) || new != wantNew || code != wantCode || wantCode == impl.OK && !impl.GroupOK(got) {
		t.Fatal("Ack", short(g), epoch, d, short(got), new, code, "not", short(want), wantNew, wantCode)
	}
	return got, new
}

func resyncAsTold(t *testing.T, g group, epoch int, x givenNode) group {
	t.Helper()
	want, wantCode := resyncTold(g, epoch, x)
	got, code := impl.Resync(g, epoch, x.node)
	if !alikeGroups(got, want) || code != wantCode || wantCode == impl.OK && !impl.GroupOK(got) {
		t.Fatal("Resync", short(g), epoch, short(x), short(got), code, "not", short(want), wantCode)
	}
	return got
}

func cutAsTold(t *testing.T, x givenNode, n int) node {
	t.Helper()
	want, wantCode := cutTold(t, x, n)
	got, code := impl.CutFeed(x.node, n)
	if !alikeNodes(got, want) || code != wantCode || wantCode == impl.OK && !impl.NodeOK(got) {
		t.Fatal("CutFeed", short(x), n, short(got), code, "not", short(want), wantCode)
	}
	return got
}
