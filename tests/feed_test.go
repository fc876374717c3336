package tests

import (
	"math"
	"slices"
	"testing"

	"loop.example/g00535/impl"
)

// With nothing acknowledged, without a stream, with streams of all nodes, with events that were passed over, at the
// bounds, and full.
func rightGroups() []group {
	return []group{
		{Epoch: 1},
		{Epoch: 1, Owner: 2, Stream: []dot{}},
		{Epoch: newestEpoch - 1, Owner: 2},
		{Epoch: newestEpoch, Owner: 1},
		{Epoch: 2, Acked: vv{impl.MaxDot, impl.MaxDot, impl.MaxDot}},
		{Epoch: 3, Owner: 1, Acked: vv{1}, Stream: dotsIn("a1")},
		{Epoch: 3, Acked: vv{3, 2, 1}},
		{Epoch: 3, Acked: vv{3, 2, 1}, Stream: dotsIn("a1", "b1", "a2", "c1", "b2", "a3")},
		{Epoch: 3, Acked: vv{3, 2, 1}, Stream: dotsIn("c1", "b1", "b2", "a1", "a2", "a3")},
		{Epoch: 4, Acked: vv{5, 5, 5}, Stream: dotsIn("a1", "b2", "b4", "a5", "c3")},
		{Epoch: 5, Acked: vv{2, impl.MaxDot, 7}, Stream: dotsIn("b9998", "b9999")},
		{Epoch: 6, Acked: vv{2, 300, 4}, Stream: dotsOf(1, 1, 300)},
		{Epoch: 7, Acked: vv{impl.MaxList - 1}, Stream: dotsOf(0, 1, impl.MaxList-1)},
		{Epoch: 7, Acked: vv{impl.MaxList}, Stream: dotsOf(0, 1, impl.MaxList)},
		{Epoch: newestEpoch, Owner: 2, Acked: vv{9, 9, impl.MaxDot}, Stream: dotsOf(2, impl.MaxDot-impl.MaxList+1, impl.MaxDot)},
		{Epoch: 8, Acked: vv{0, 2000, 2096}, Stream: append(dotsOf(2, 1, 2096), dotsOf(1, 1, 2000)...)},
	}
}

func wrongGroups() []group {
	all := []group{
		{},
		{Epoch: 1, Stream: dotsIn("a1")},
		{Epoch: 1, Acked: vv{0, 2, 2}, Stream: dotsIn("a1")},
		{Epoch: 1, Acked: vv{2}, Stream: dotsIn("a3")},
		{Epoch: 1, Acked: vv{2, 2, 2}, Stream: dotsIn("a1", "a1")},
		{Epoch: 1, Acked: vv{2, 2, 2}, Stream: dotsIn("a2", "a1")},
		{Epoch: 1, Acked: vv{2, 2, 2}, Stream: dotsIn("a1", "b1", "a1")},
		{Epoch: 1, Acked: vv{2, 2, 2}, Stream: dotsIn("a2", "b1", "c1", "a1")},
		{Epoch: 1, Acked: vv{2, 2, 2}, Stream: dotsIn("a1", "b1", "b2", "c2", "c1")},
		{Epoch: 1, Acked: vv{2, 2, 2}, Stream: dotsIn("a1", "a2", "a3")},
		{Epoch: 1, Acked: vv{impl.MaxList + 1}, Stream: dotsOf(0, 1, impl.MaxList+1)},
		{Epoch: 1, Acked: vv{3000, 3000}, Stream: append(dotsOf(0, 1, 3000), dotsOf(1, 1, impl.MaxList-2999)...)},
		{Epoch: 1, Acked: vv{impl.MaxList - 1}, Stream: dotsOf(0, 1, impl.MaxList)},
		{Epoch: 1, Acked: vv{impl.MaxList}, Stream: append(dotsOf(0, 1, impl.MaxList-1), dot{Node: 0, N: 1})},
		{Epoch: 1, Stream: make([]dot, impl.MaxList+1)},
		{Epoch: 1, Stream: make([]dot, 1)},
	}
	for _, epoch := range []int{math.MinInt, -1, 0, newestEpoch + 1, 1<<32 + 1, math.MaxInt} {
		all = append(all, group{Epoch: epoch}, group{Epoch: epoch, Acked: vv{1}, Stream: dotsIn("a1")})
	}
	for _, owner := range noNodes {
		all = append(all, group{Epoch: 1, Owner: owner})
	}
	for _, acked := range wrongVvs() {
		all = append(all, group{Epoch: 1, Acked: acked}, group{Epoch: 1, Acked: acked, Stream: dotsIn("a1", "b1")})
	}
	for _, d := range wrongDots {
		acked := vv{impl.MaxDot, impl.MaxDot, impl.MaxDot}
		all = append(all, group{Epoch: 1, Acked: acked, Stream: []dot{d}}, group{Epoch: 1, Acked: acked, Stream: append(dotsIn("a1", "b2"), d)})
	}
	return all
}

func TestGroupsRightAndWrong(t *testing.T) {
	for i, g := range rightGroups() {
		if !groupRight(g) || !impl.GroupOK(g) {
			t.Error("GroupOK of right group", i, short(g))
		}
	}
	for i, g := range wrongGroups() {
		if groupRight(g) || impl.GroupOK(g) {
			t.Error("GroupOK of wrong group", i, short(g))
		}
	}
}

func TestEpochsAndOwnersOfGroups(t *testing.T) {
	for _, epoch := range []int{math.MinInt, -1, 0, 1, 2, newestEpoch - 1, newestEpoch, newestEpoch + 1, math.MaxInt} {
		for _, owner := range []int{math.MinInt, -1, 0, 1, 2, 3, math.MaxInt} {
			want := between(1, epoch, newestEpoch) && between(0, owner, 2)
			if impl.GroupOK(group{Epoch: epoch, Owner: owner}) != want {
				t.Error("GroupOK", epoch, owner, !want)
			}
		}
	}
}

// Each stream of up to four events of two nodes, right and wrong ones, with more and less acknowledged.
func TestEachSmallStream(t *testing.T) {
	events := []dot{{Node: 0, N: 0}, {Node: 0, N: 1}, {Node: 0, N: 2}, {Node: 1, N: 1}, {Node: 1, N: 2}, {Node: 3, N: 1}}
	streams := [][]dot{nil}
	for i := 0; i < len(streams); i++ {
		for _, acked := range []vv{{}, {1}, {0, 1}, {1, 1}, {2, 1}, {2, 2}, {2, 2, 9}} {
			g := group{Epoch: 1, Acked: acked, Stream: streams[i]}
			if got := impl.GroupOK(g); got != groupRight(g) {
				t.Fatal("GroupOK", g, got)
			}
		}
		for _, d := range events {
			if len(streams[i]) < 4 {
				streams = append(streams, append(slices.Clone(streams[i]), d))
			}
		}
	}
}

func TestNewGroup(t *testing.T) {
	for range 2 {
		g := impl.NewGroup()
		if !alikeGroups(g, group{Epoch: 1}) || !impl.GroupOK(g) {
			t.Error("NewGroup", g)
		}
		g.Stream = append(g.Stream, dot{})
	}
}

func TestTakeoversByHand(t *testing.T) {
	stream := dotsIn("a1", "b1")
	for _, c := range []struct {
		epoch, owner, by, wantEpoch, wantOwner, code int
	}{
		{1, 0, 2, 2, 2, impl.OK},
		{1, 0, 0, 2, 0, impl.OK}, // the same owner: another epoch all the same
		{7, 2, 1, 8, 1, impl.OK},
		{newestEpoch - 1, 1, 0, newestEpoch, 0, impl.OK},
		{newestEpoch, 1, 0, newestEpoch, 1, impl.ErrMany},
		{newestEpoch, 1, 1, newestEpoch, 1, impl.ErrMany},
		{newestEpoch, 1, 2, newestEpoch, 1, impl.ErrMany},
	} {
		got, code := impl.Takeover(group{Epoch: c.epoch, Owner: c.owner, Acked: vv{1, 1, 4}, Stream: stream}, c.by)
		if !alikeGroups(got, group{Epoch: c.wantEpoch, Owner: c.wantOwner, Acked: vv{1, 1, 4}, Stream: stream}) || code != c.code {
			t.Error("Takeover", c, got, code)
		}
	}
	for _, g := range []group{{Epoch: 1}, {Epoch: newestEpoch, Acked: vv{1, 1, 4}, Stream: stream}} { // the range is asked ahead of the epoch
		for _, owner := range noNodes {
			if got, code := impl.Takeover(g, owner); !alikeGroups(got, group{}) || code != impl.ErrRange {
				t.Error("Takeover", g, owner, got, code)
			}
		}
	}
}

func TestEachTakeover(t *testing.T) {
	for _, g := range append(rightGroups(), wrongGroups()...) {
		for _, owner := range []int{math.MinInt, -1, 0, 1, 2, 3, math.MaxInt} {
			takeoverAsTold(t, g, owner)
		}
	}
}

// Five events of node 1 of three keys, with joins between, which are no events.
var feedRecords = []string{"put a 0.1.0|b1=1", "join b 5.0.0|a5=1", "put b 5.2.0|a5=1|b2=2", "put a 0.3.0|b3=3", "join a 0.3.7|b3=3|c7!",
	"put c 0.4.0|b4!", "put b 5.5.0|b5=5"}

var feedEntries = entriesOf(1, 1, "a", "b", "a", "c", "b")

// entriesOf has one of each key, from the node's event of that number on.
func entriesOf(id, first int, keys ...string) []entry {
	var list []entry
	for i, key := range keys {
		list = append(list, entry{Dot: dot{Node: id, N: first + i}, Key: key})
	}
	return list
}

func feedNode(t *testing.T, more ...string) node {
	t.Helper()
	return nodeTold(t, 1, 3, slices.Concat(feedRecords, more)...)
}

// Feeds that are empty, whole, cut at their beginning, in their midst and wholly, once and several times, that go on
// behind a cut, and of nodes without room for a line.
func feedNodes(t *testing.T) []node {
	t.Helper()
	return append([]node{
		{Id: 0}, {Id: 1}, {Id: 2},
		sureTold(t, 2, "join b 0.1.0|b1=5"),
		feedNode(t), feedNode(t, "cut 1"), feedNode(t, "cut 2"), feedNode(t, "cut 4"), feedNode(t, "cut 5"),
		feedNode(t, "cut 1", "cut 2", "cut 5"),
		feedNode(t, "cut 3", "put d 0.6.0|b6=1"),
		feedNode(t, "cut 5", "put d 0.6.0|b6=1", "put d 0.7.0|b7=1", "cut 6"),
		sureTold(t, 2, append(fillers(2, 4, "key"), "cut 2")...),
	}, fullFeeds(t)...)
}

// Nodes with MaxRecords lines, uncut, cut at the first, in the midst, and at the last event; and with one line less.
func fullFeeds(t *testing.T) []node {
	t.Helper()
	var all []node
	for _, cut := range []string{"cut 1", "cut 150", "cut 298"} {
		all = append(all, nodeTold(t, 1, 100, slices.Concat(fillers(1, 298, "a"), []string{cut})...))
		all = append(all, nodeTold(t, 1, 100, slices.Concat(fillers(1, 298, "a"), []string{cut, "join b 1.0.0"})...))
	}
	return append(all,
		nodeTold(t, 1, 0, fillers(1, impl.MaxRecords, "a")...),
		nodeTold(t, 1, impl.MaxRecords, fillers(1, impl.MaxRecords, "a")...),
		nodeTold(t, 1, 7, fillers(1, impl.MaxRecords-1, "a")...))
}

func givenNodes(t *testing.T) []givenNode {
	t.Helper()
	return slices.Concat(rightOnes(feedNodes(t)...), rightOnes(rightNodes(t)...), wrongOnes(wrongNodes(t)...))
}

func TestFeedAfterByHand(t *testing.T) {
	for _, c := range []struct {
		cut         string
		n, k        int
		first, last int // of the entries, from the first one on
		code        int
	}{
		{"", 0, 0, 0, 0, impl.OK},
		{"", 0, 1, 0, 1, impl.OK},
		{"", 0, 4, 0, 4, impl.OK},
		{"", 0, 5, 0, 5, impl.OK},
		{"", 0, 6, 0, 5, impl.OK},
		{"", 0, impl.MaxRecords, 0, 5, impl.OK},
		{"", 1, 2, 1, 3, impl.OK},
		{"", 4, 9, 4, 5, impl.OK},
		{"", 5, 9, 5, 5, impl.OK},
		{"", 6, 9, 5, 5, impl.OK},
		{"", impl.MaxDot, 9, 5, 5, impl.OK},
		{"cut 1", 0, 9, 0, 0, impl.ErrCut},
		{"cut 1", 1, 9, 1, 5, impl.OK},
		{"cut 3", 0, 9, 0, 0, impl.ErrCut},
		{"cut 3", 2, 9, 0, 0, impl.ErrCut},
		{"cut 3", 2, 0, 0, 0, impl.ErrCut}, // though nothing is asked for
		{"cut 3", 3, 9, 3, 5, impl.OK},
		{"cut 3", 3, 1, 3, 4, impl.OK},
		{"cut 3", 4, 9, 4, 5, impl.OK},
		{"cut 5", 4, 9, 0, 0, impl.ErrCut},
		{"cut 5", 5, 9, 5, 5, impl.OK},
		{"cut 5", impl.MaxDot, 9, 5, 5, impl.OK},
		// the range is asked ahead of the cut
		{"cut 3", -1, 9, 0, 0, impl.ErrRange},
		{"cut 3", 0, -1, 0, 0, impl.ErrRange},
		{"cut 3", 0, impl.MaxRecords + 1, 0, 0, impl.ErrRange},
		{"", -1, 9, 0, 0, impl.ErrRange},
		{"", impl.MaxDot + 1, 9, 0, 0, impl.ErrRange},
		{"", 0, -1, 0, 0, impl.ErrRange},
		{"", 0, impl.MaxRecords + 1, 0, 0, impl.ErrRange},
		{"", math.MinInt, 9, 0, 0, impl.ErrRange},
		{"", math.MaxInt, 9, 0, 0, impl.ErrRange},
		{"", 0, math.MinInt, 0, 0, impl.ErrRange},
		{"", 0, math.MaxInt, 0, 0, impl.ErrRange},
		{"", -1, impl.MaxRecords + 1, 0, 0, impl.ErrRange},
	} {
		x := feedNode(t)
		if c.cut != "" {
			x = feedNode(t, c.cut)
		}
		got, code := impl.FeedAfter(x, c.n, c.k)
		if !slices.Equal(got, feedEntries[c.first:c.last]) || code != c.code {
			t.Error("FeedAfter", c, got, code)
		}
	}
}

// Numbers at each bound and beyond, and around what the nodes have.
func feedNumbers(x node) []int {
	return []int{math.MinInt, -1 << 32, -1, 0, 1, x.Cut - 1, x.Cut, x.Cut + 1, x.Count - 1, x.Count, x.Count + 1, impl.MaxRecords - 1, impl.MaxRecords,
		impl.MaxRecords + 1, impl.MaxDot - 1, impl.MaxDot, impl.MaxDot + 1, 1 << 32, math.MaxInt}
}

func TestEachFeed(t *testing.T) {
	for i, x := range givenNodes(t) {
		numbers := feedNumbers(x.node)
		if !x.right || i%2 == 1 {
			numbers = []int{math.MinInt, -1, 0, 2, x.Cut, impl.MaxRecords, impl.MaxDot + 1}
		}
		for _, n := range numbers {
			for _, k := range numbers {
				feedAsTold(t, x, n, k)
			}
		}
	}
}

// A feed of as many entries as may be asked for.
func TestALongFeed(t *testing.T) {
	x := sureTold(t, 2, fillers(2, impl.MaxRecords, "key")...)
	for _, n := range []int{0, 1, 150, 299, 300, 301} {
		for _, k := range []int{0, 1, 150, 299, 300} {
			got, code := impl.FeedAfter(x, n, k)
			if want := min(k, max(0, 300-n)); len(got) != want || code != impl.OK {
				t.Fatal("FeedAfter", n, k, len(got), code)
			}
			for i, e := range got {
				if e != (entry{Dot: dot{Node: 2, N: n + 1 + i}, Key: "key"}) {
					t.Fatal("FeedAfter", n, k, i, e)
				}
			}
		}
	}
}

func TestPollByHand(t *testing.T) {
	whole, cut := feedNode(t), feedNode(t, "cut 3")
	for _, c := range []struct {
		x           node
		acked, k    int
		first, last int
		resync      bool
		code        int
	}{
		{whole, 0, 0, 0, 0, false, impl.OK},
		{whole, 0, 2, 0, 2, false, impl.OK},
		{whole, 0, impl.MaxRecords, 0, 5, false, impl.OK},
		{whole, 2, 1, 2, 3, false, impl.OK},
		{whole, 2, 9, 2, 5, false, impl.OK},
		{whole, 5, 9, 5, 5, false, impl.OK},
		{whole, 6, 9, 5, 5, false, impl.OK},
		{whole, impl.MaxDot, 9, 5, 5, false, impl.OK},
		{cut, 0, 9, 0, 0, true, impl.OK},
		{cut, 2, 9, 0, 0, true, impl.OK},
		{cut, 2, 0, 0, 0, true, impl.OK},
		{cut, 3, 9, 3, 5, false, impl.OK},
		{cut, 3, 0, 3, 3, false, impl.OK},
		{cut, 4, 9, 4, 5, false, impl.OK},
		{cut, 5, 9, 5, 5, false, impl.OK},
		{whole, 0, -1, 0, 0, false, impl.ErrRange},
		{whole, 0, impl.MaxRecords + 1, 0, 0, false, impl.ErrRange},
		{cut, 0, -1, 0, 0, false, impl.ErrRange}, // the range is asked ahead of the cut
		{cut, 0, impl.MaxRecords + 1, 0, 0, false, impl.ErrRange},
		{cut, 0, math.MinInt, 0, 0, false, impl.ErrRange},
		{cut, 0, math.MaxInt, 0, 0, false, impl.ErrRange},
	} {
		// what is acknowledged of other nodes has no part in it
		for _, acked := range []vv{{0, c.acked, 0}, {impl.MaxDot, c.acked, 1}} {
			for _, epoch := range []int{1, 9, newestEpoch} {
				want := batch{Epoch: epoch, Node: 1, Entries: feedEntries[c.first:c.last]}
				if c.resync {
					want = batch{Resync: true}
				}
				if c.code != impl.OK {
					want = batch{}
				}
				got, code := impl.Poll(group{Epoch: epoch, Owner: 2, Acked: acked}, c.x, c.k)
				if !alikeBatches(got, want) || code != c.code {
					t.Error("Poll", c, epoch, acked, got, code)
				}
			}
		}
	}
}

// eachPair asks of right and wrong groups with right and wrong nodes: of nodes that are wrong, and of what is long, with
// some of the others each.
func eachPair(t *testing.T, ask func(g group, x givenNode)) {
	t.Helper()
	groups := append(rightGroups(), wrongGroups()[:20]...)
	for i, x := range givenNodes(t) {
		for k, g := range groups {
			small := lines(x.Disk) < 50 && len(g.Stream) < 1000
			if x.right && (small || (i+k)%5 == 0) || !x.right && (i+k)%50 == 0 {
				ask(g, x)
			}
		}
	}
}

func TestEachPoll(t *testing.T) {
	eachPair(t, func(g group, x givenNode) {
		for _, k := range []int{math.MinInt, -1, 0, 1, 2, 5, impl.MaxRecords, impl.MaxRecords + 1, math.MaxInt} {
			pollAsTold(t, g, x, k)
		}
		if x.right && groupRight(g) {
			for _, acked := range []int{x.Cut - 1, x.Cut, x.Cut + 1, x.Count} {
				g.Acked[x.Id], g.Stream = max(0, acked), nil
				pollAsTold(t, g, x, 2)
			}
		}
	})
}

func TestAckByHand(t *testing.T) {
	full := group{Epoch: 5, Owner: 1, Acked: vv{impl.MaxList, 2}, Stream: dotsOf(0, 1, impl.MaxList)}
	some := group{Epoch: 5, Owner: 1, Acked: vv{2, 1, 0}, Stream: dotsIn("a1", "b1", "a2")}
	last := group{Epoch: 5, Owner: 1, Acked: vv{impl.MaxDot - 1, impl.MaxDot, 0}}
	for _, c := range []struct {
		g     group
		epoch int
		d     string
		new   bool
		code  int
	}{
		{some, 5, "a1", false, impl.OK}, // known
		{some, 5, "a2", false, impl.OK},
		{some, 5, "a3", true, impl.OK}, // the next one
		{some, 5, "a4", false, impl.ErrOrder},
		{some, 5, "a9999", false, impl.ErrOrder},
		{some, 5, "b1", false, impl.OK},
		{some, 5, "b2", true, impl.OK},
		{some, 5, "b3", false, impl.ErrOrder},
		{some, 5, "c1", true, impl.OK},
		{some, 5, "c2", false, impl.ErrOrder},
		// the epoch ahead, the one behind, and others, ahead of all that is asked of the event
		{some, 4, "a3", false, impl.ErrFenced},
		{some, 6, "a3", false, impl.ErrFenced},
		{some, 4, "a1", false, impl.ErrFenced},
		{some, 6, "a1", false, impl.ErrFenced},
		{some, 4, "a4", false, impl.ErrFenced},
		{some, 6, "a4", false, impl.ErrFenced},
		{some, 0, "a3", false, impl.ErrFenced},
		{some, -5, "a3", false, impl.ErrFenced},
		{some, newestEpoch + 1, "a3", false, impl.ErrFenced},
		{some, 1<<32 + 5, "a3", false, impl.ErrFenced},
		{some, math.MinInt, "a3", false, impl.ErrFenced},
		{some, math.MaxInt, "a3", false, impl.ErrFenced},
		// the last event that there may be
		{last, 5, "a9999", true, impl.OK},
		{last, 5, "a9998", false, impl.OK},
		{last, 5, "b9999", false, impl.OK},
		// no room: asked behind the epoch, what is known, and the order
		{full, 5, "b3", false, impl.ErrFull},
		{full, 5, "c1", false, impl.ErrFull},
		{full, 5, "a4097", false, impl.ErrFull},
		{full, 5, "a4096", false, impl.OK},
		{full, 5, "b2", false, impl.OK},
		{full, 5, "b4", false, impl.ErrOrder},
		{full, 5, "a4098", false, impl.ErrOrder},
		{full, 4, "b3", false, impl.ErrFenced},
		{full, 6, "b4", false, impl.ErrFenced},
	} {
		d, want := dotIn(c.d), copyOfGroup(c.g)
		if c.new {
			want.Acked[d.Node] = d.N
			want.Stream = append(want.Stream, d)
		}
		if got, new, code := impl.Ack(c.g, c.epoch, d); !alikeGroups(got, want) || new != c.new || code != c.code {
			t.Error("Ack", short(c.g), c.epoch, c.d, short(got), new, code, "not", c.new, c.code)
		}
	}
	for _, d := range wrongDots {
		for _, g := range []group{some, full} {
			for _, epoch := range []int{4, 5, 6} { // an event that is none is told ahead of the epoch
				if got, new, code := impl.Ack(g, epoch, d); !alikeGroups(got, group{}) || new || code != impl.ErrBad {
					t.Error("Ack", epoch, d, short(got), new, code)
				}
			}
		}
	}
}

func TestEachAck(t *testing.T) {
	for i, g := range append(rightGroups(), wrongGroups()...) {
		epochs := []int{math.MinInt, -1, 0, 1, g.Epoch, newestEpoch, newestEpoch + 1, math.MaxInt}
		if i%2 == 0 && between(-9, g.Epoch, newestEpoch+9) {
			epochs = append(epochs, g.Epoch-1, g.Epoch+1)
		}
		dots := append(slices.Clone(wrongDots), rightDots()...)
		for id, n := range g.Acked {
			for more := -1; more <= 2 && groupRight(g); more++ {
				dots = append(dots, dot{Node: id, N: n + more})
			}
		}
		for k, d := range dots {
			if len(g.Stream) < 9 || k >= len(wrongDots)-4 {
				for _, epoch := range epochs {
					ackAsTold(t, g, epoch, d)
				}
			}
		}
	}
}

func TestResyncByHand(t *testing.T) {
	g := group{Epoch: 5, Owner: 2, Acked: vv{4, 2, 3}, Stream: dotsIn("a4", "b1", "b2", "c3")}
	for _, c := range []struct {
		cut   string
		epoch int
		acked int // of node 1
		code  int
	}{
		{"cut 1", 5, 2, impl.OK}, // below what is acknowledged
		{"cut 2", 5, 2, impl.OK}, // at it
		{"cut 3", 5, 3, impl.OK}, // above it
		{"cut 5", 5, 5, impl.OK},
		{"cut 5", 4, 2, impl.ErrFenced},
		{"cut 5", 6, 2, impl.ErrFenced},
		{"cut 2", 4, 2, impl.ErrFenced},
		{"cut 5", 0, 2, impl.ErrFenced},
		{"cut 5", math.MinInt, 2, impl.ErrFenced},
		{"cut 5", math.MaxInt, 2, impl.ErrFenced},
	} {
		want := copyOfGroup(g)
		want.Acked[1] = c.acked
		if got, code := impl.Resync(g, c.epoch, feedNode(t, c.cut)); !alikeGroups(got, want) || code != c.code {
			t.Error("Resync", c, got, code)
		}
	}
	if got, code := impl.Resync(g, 5, feedNode(t)); !alikeGroups(got, g) || code != impl.OK {
		t.Error("Resync of a feed that was not cut", got, code)
	}
	// of another node, what is acknowledged of the first one stays
	other := sureTold(t, 2, append(fillers(2, 9, "key"), "cut 8")...)
	if got, code := impl.Resync(g, 5, other); got.Acked != (vv{4, 2, 8}) || !slices.Equal(got.Stream, g.Stream) || code != impl.OK {
		t.Error("Resync", got, code)
	}
}

func TestEachResync(t *testing.T) {
	eachPair(t, func(g group, x givenNode) {
		for _, epoch := range []int{math.MinInt, 0, 1, g.Epoch, g.Epoch + 1, newestEpoch, math.MaxInt} {
			resyncAsTold(t, g, epoch, x)
		}
	})
}

func TestCutFeedByHand(t *testing.T) {
	for _, c := range []struct {
		cuts        []string
		n           int
		first, last int // of the entries that are left
		code        int
	}{
		{nil, 1, 1, 5, impl.OK},
		{nil, 3, 3, 5, impl.OK},
		{nil, 4, 4, 5, impl.OK},
		{nil, 5, 5, 5, impl.OK},
		{[]string{"cut 1"}, 2, 2, 5, impl.OK},
		{[]string{"cut 1", "cut 2"}, 5, 5, 5, impl.OK},
		{nil, 0, 0, 5, impl.ErrRange},
		{nil, 6, 0, 5, impl.ErrRange},
		{nil, -1, 0, 5, impl.ErrRange},
		{nil, math.MinInt, 0, 5, impl.ErrRange},
		{nil, math.MaxInt, 0, 5, impl.ErrRange},
		{nil, 1<<32 + 3, 0, 5, impl.ErrRange},
		{[]string{"cut 3"}, 3, 3, 5, impl.ErrRange}, // at what was cut, and below it
		{[]string{"cut 3"}, 2, 3, 5, impl.ErrRange},
		{[]string{"cut 3"}, 0, 3, 5, impl.ErrRange},
		{[]string{"cut 3"}, 6, 3, 5, impl.ErrRange},
		{[]string{"cut 5"}, 5, 5, 5, impl.ErrRange}, // nothing is left to be cut
		{[]string{"cut 5"}, 6, 5, 5, impl.ErrRange},
	} {
		x := feedNode(t, c.cuts...)
		want := copyOfNode(x)
		if c.code == impl.OK {
			want.Cut, want.Feed = c.n, feedEntries[c.first:c.last]
			want.Disk.Unsure = append(want.Disk.Unsure, "5:"+cutSum[c.n]+":cut "+string(rune('0'+c.n)))
		}
		if got, code := impl.CutFeed(x, c.n); !alikeNodes(got, want) || code != c.code {
			t.Error("CutFeed", c, short(got), code)
		}
		if !slices.Equal(want.Feed, feedEntries[c.first:c.last]) {
			t.Error("another feed is asked for", c)
		}
	}
}

// The sums of the lines of cuts, worked out by hand: of "cut 0" it is 100 + 2*118 + 3*117 + 4*33 + 5*49 = 1064, and 5 more
// for each number more.
var cutSum = []string{"1064", "1069", "1074", "1079", "1084", "1089"}

func TestNewNodesHaveNothingToCut(t *testing.T) {
	for id := range impl.Nodes {
		for _, n := range []int{math.MinInt, -1, 0, 1, 2, math.MaxInt} {
			if got, code := impl.CutFeed(node{Id: id}, n); !alikeNodes(got, node{Id: id}) || code != impl.ErrRange {
				t.Error("CutFeed", id, n, got, code)
			}
		}
	}
}

func TestEachCutFeed(t *testing.T) {
	for _, x := range givenNodes(t) {
		for _, n := range feedNumbers(x.node) {
			cutAsTold(t, x, n)
		}
	}
}

// Beside ErrFull the node is as it was; the range is asked ahead of the room; the last line may be a cut.
func TestCutWithoutRoom(t *testing.T) {
	full := nodeTold(t, 1, 100, fillers(1, impl.MaxRecords, "a")...)
	cut := nodeTold(t, 1, 100, append(fillers(1, impl.MaxRecords-1, "a"), "cut 9")...)
	for _, c := range []struct {
		x       node
		n, code int
	}{
		{full, 1, impl.ErrFull}, {full, 150, impl.ErrFull}, {full, 300, impl.ErrFull}, {full, 0, impl.ErrRange}, {full, 301, impl.ErrRange},
		{cut, 10, impl.ErrFull}, {cut, 299, impl.ErrFull}, {cut, 9, impl.ErrRange}, {cut, 8, impl.ErrRange}, {cut, 300, impl.ErrRange},
	} {
		if got, code := impl.CutFeed(c.x, c.n); !alikeNodes(got, c.x) || code != c.code {
			t.Error("CutFeed", c.n, short(got), code, "not", c.code)
		}
	}
	roomy := nodeTold(t, 1, 100, fillers(1, impl.MaxRecords-1, "a")...)
	if got, code := impl.CutFeed(roomy, 9); !alikeNodes(got, cut) || code != impl.OK {
		t.Error("CutFeed into the last line", short(got), code)
	}
}

// Wrong groups, nodes and events are told ahead of all else that is wrong, and all is zero beside.
func TestWhatIsBadComesFirst(t *testing.T) {
	some := group{Epoch: 2, Acked: vv{1}}
	for i, g := range wrongGroups() {
		for _, owner := range []int{-1, 0, 3} {
			if got, code := impl.Takeover(g, owner); !alikeGroups(got, group{}) || code != impl.ErrBad {
				t.Fatal("Takeover", i, got, code)
			}
		}
		for _, k := range []int{-1, 1, impl.MaxRecords + 1} {
			if got, code := impl.Poll(g, feedNode(t, "cut 3"), k); !alikeBatches(got, batch{}) || code != impl.ErrBad {
				t.Fatal("Poll", i, got, code)
			}
		}
		for _, epoch := range []int{g.Epoch, 0, 2} {
			if got, new, code := impl.Ack(g, epoch, dot{Node: 0, N: 1}); !alikeGroups(got, group{}) || new || code != impl.ErrBad {
				t.Fatal("Ack", i, got, new, code)
			}
			if got, code := impl.Resync(g, epoch, feedNode(t)); !alikeGroups(got, group{}) || code != impl.ErrBad {
				t.Fatal("Resync", i, got, code)
			}
		}
	}
	for i, x := range wrongNodes(t) {
		for _, n := range []int{-1, 1, impl.MaxDot + 1} {
			if got, code := impl.FeedAfter(x, n, n); len(got) > 0 || code != impl.ErrBad {
				t.Fatal("FeedAfter", i, n, got, code)
			}
			if got, code := impl.Poll(some, x, n); !alikeBatches(got, batch{}) || code != impl.ErrBad {
				t.Fatal("Poll", i, n, got, code)
			}
			if got, code := impl.Resync(some, n, x); !alikeGroups(got, group{}) || code != impl.ErrBad {
				t.Fatal("Resync", i, n, got, code)
			}
			if got, code := impl.CutFeed(x, n); !isZeroNode(got) || code != impl.ErrBad {
				t.Fatal("CutFeed", i, n, short(got), code)
			}
		}
	}
}
