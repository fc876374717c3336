package tests

import (
	"slices"
	"testing"

	"loop.example/g00535/impl"
)

// Promise 12: an event is acknowledged once, in its order, and by the owner of the newest epoch alone; what is cut off a
// feed cannot be told any more.

// An owner has the epoch that it once got by a takeover, and what it has polled and not yet acknowledged, which may be
// long out of date.
type streamOwner struct {
	epoch int
	hand  []entry
}

// A run of three nodes that put, sync, cut and crash, and of owners that poll, take over, acknowledge and resync. Beside
// the group stands what was told to be new, in its order, and up to where each node's events were passed over.
type streamRun struct {
	history
	nodes  [impl.Nodes]node
	owners [impl.Nodes]streamOwner
	group  group
	new    []dot
	passed vv
	newest int // the epoch, counted by takeovers
	by     int // who took over last
}

func newStreamRun(seed uint32) *streamRun {
	r := &streamRun{history: history{state: seed}, group: impl.NewGroup(), newest: 1}
	for id := range impl.Nodes {
		r.nodes[id] = node{Id: id}
	}
	r.owners[0].epoch = 1
	return r
}

func (r *streamRun) put(t *testing.T, id int) {
	t.Helper()
	x, _, code := impl.PutNode(r.nodes[id], runKeys[r.draw(len(runKeys))], vv{}, r.draw(1000), false)
	if code != impl.OK {
		t.Fatal("PutNode", code)
	}
	r.nodes[id] = x
}

func (r *streamRun) sync(t *testing.T, id int) {
	t.Helper()
	x, code := impl.SyncNode(r.nodes[id])
	if code != impl.OK {
		t.Fatal("SyncNode", code)
	}
	r.nodes[id] = x
}

func (r *streamRun) crash(t *testing.T, id, keep int) {
	t.Helper()
	x, code := impl.CrashNode(r.nodes[id], keep, 9)
	if code != impl.OK {
		t.Fatal("CrashNode", code)
	}
	r.nodes[id] = x
}

func (r *streamRun) cut(t *testing.T, id, n int) {
	t.Helper()
	r.nodes[id] = cutAsTold(t, givenNode{r.nodes[id], true}, n)
}

func (r *streamRun) poll(t *testing.T, by, id, k int) {
	t.Helper()
	b := pollAsTold(t, r.group, givenNode{r.nodes[id], true}, k)
	r.owners[by].hand = append(r.owners[by].hand, b.Entries...)
}

func (r *streamRun) takeover(t *testing.T, by int) {
	t.Helper()
	r.group = takeoverAsTold(t, r.group, by)
	r.newest, r.by = r.newest+1, by
	if r.group.Epoch != r.newest || r.group.Owner != by {
		t.Fatal("Takeover", r.group, "not epoch", r.newest, "of", by)
	}
	r.owners[by].epoch = r.group.Epoch
}

// ack hands in the entry of that place, which is then out of the owner's hand only if the owner was the right one: a late
// one will try it again.
func (r *streamRun) ack(t *testing.T, by, place int) {
	t.Helper()
	o := &r.owners[by]
	if place >= len(o.hand) {
		return
	}
	d := o.hand[place].Dot
	upTo := r.passed[d.Node]
	for _, ahead := range r.new {
		if ahead.Node == d.Node {
			upTo = max(upTo, ahead.N)
		}
	}
	g, new := ackAsTold(t, r.group, o.epoch, d)
	switch {
	case new && (o.epoch != r.newest || by != r.by):
		t.Fatal("acknowledged by", by, "of epoch", o.epoch, "but epoch", r.newest, "belongs to", r.by)
	case new && slices.Contains(r.new, d):
		t.Fatal("acknowledged twice", d, r.new)
	case new && d.N != upTo+1:
		t.Fatal("acknowledged out of order", d, r.new)
	case !new && !alikeGroups(g, r.group):
		t.Fatal("not acknowledged, but changed", d, r.group, g)
	case !new && o.epoch == r.newest && d.N == upTo+1:
		t.Fatal("the next one is not acknowledged", d, r.new)
	}
	if new {
		r.new = append(r.new, d)
	}
	if o.epoch == r.newest {
		o.hand = slices.Delete(o.hand, place, place+1)
	}
	r.group = g
}

func (r *streamRun) resync(t *testing.T, by, id int) {
	t.Helper()
	o := r.owners[by]
	g := resyncAsTold(t, r.group, o.epoch, givenNode{r.nodes[id], true})
	if o.epoch == r.newest {
		r.passed[id] = max(r.passed[id], r.nodes[id].Cut)
	} else if !alikeGroups(g, r.group) {
		t.Fatal("resynced by", by, "of epoch", o.epoch, "but the newest is", r.newest)
	}
	r.group = g
}

// check holds the stream against what was told to be new, event by event.
func (r *streamRun) check(t *testing.T) {
	t.Helper()
	if !slices.Equal(r.group.Stream, r.new) || !impl.GroupOK(r.group) {
		t.Fatal("a stream that was not acknowledged:", r.group.Stream, "not", r.new)
	}
	last := r.passed
	seen := map[dot]int{}
	var ahead vv
	for _, d := range r.new {
		seen[d]++
		if seen[d] > 1 || d.N <= ahead[d.Node] {
			t.Fatal("twice, or out of order:", d, r.new)
		}
		ahead[d.Node] = d.N
		last[d.Node] = max(last[d.Node], d.N)
	}
	if r.group.Acked != last {
		t.Fatal("acknowledged up to", r.group.Acked, "not", last)
	}
}

func (r *streamRun) step(t *testing.T) {
	t.Helper()
	id, by := r.draw(impl.Nodes), r.draw(impl.Nodes)
	if r.draw(2) == 0 {
		by = r.by
	}
	switch r.draw(20) {
	case 0, 1, 2, 3:
		r.put(t, id)
	case 4:
		r.sync(t, id)
	case 5:
		r.crash(t, id, r.draw(4))
	case 6:
		r.cut(t, id, r.draw(r.nodes[id].Count+3)-1)
	case 7:
		r.takeover(t, by)
	case 8, 9, 10:
		r.poll(t, by, id, r.draw(5))
	case 11:
		r.resync(t, by, id)
	case 12:
		r.ack(t, by, r.draw(6)) // out of order, perhaps
	default:
		r.ack(t, by, 0)
	}
	r.check(t)
}

func TestRunsOfStreams(t *testing.T) {
	acked, fenced := 0, 0
	for seed := range uint32(300) {
		r := newStreamRun(seed)
		for range 120 {
			r.step(t)
		}
		acked += len(r.new)
		for _, o := range r.owners {
			if o.epoch != r.newest {
				fenced += len(o.hand)
			}
		}
	}
	if acked < 1000 || fenced < 1000 { // else the runs would show little
		t.Error("acknowledged", acked, "and left in the hands of those that were fenced", fenced)
	}
}

// drain lets the last owner poll and acknowledge until there is nothing more.
func (r *streamRun) drain(t *testing.T, k int) {
	t.Helper()
	for id := range impl.Nodes {
		for before := -1; before < len(r.new); {
			before = len(r.new)
			r.owners[r.by].hand = nil
			r.poll(t, r.by, id, k)
			for len(r.owners[r.by].hand) > 0 {
				r.ack(t, r.by, 0)
			}
		}
	}
	r.check(t)
}

// Without cuts and crashes each event comes into the stream, once, whatever came between; of each node they are there from
// the first to the last one.
func TestEachEventIsAcknowledgedOnce(t *testing.T) {
	for seed := range uint32(100) {
		r := newStreamRun(seed + 700)
		for range 60 {
			switch by, id := r.draw(impl.Nodes), r.draw(impl.Nodes); r.draw(6) {
			case 0:
				r.takeover(t, by)
			case 1:
				r.poll(t, by, id, r.draw(4))
			case 2:
				r.ack(t, by, r.draw(3))
			default:
				r.put(t, id)
			}
		}
		r.takeover(t, r.draw(impl.Nodes))
		r.drain(t, 1+r.draw(9))
		for id, x := range r.nodes {
			var own []dot
			for _, d := range r.group.Stream {
				if d.Node == id {
					own = append(own, d)
				}
			}
			if !slices.Equal(own, dotsOf(id, 1, x.Count)) {
				t.Fatal("of node", id, own, "not all of", x.Count)
			}
		}
	}
}

// copied leaves the nodes and the group as they are: no call changes them.
func (r *streamRun) copied() *streamRun {
	c := *r
	c.new = slices.Clone(r.new)
	for by, o := range r.owners {
		c.owners[by].hand = slices.Clone(o.hand)
	}
	return &c
}

// Each row of six steps of two owners, each of which may be late: they take over, poll of node 1's feed, and acknowledge
// what they have, the first or the second one of it.
func TestEachRowOfTwoOwners(t *testing.T) {
	steps := []func(r *streamRun){
		func(r *streamRun) { r.takeover(t, 0) },
		func(r *streamRun) { r.takeover(t, 2) },
		func(r *streamRun) { r.poll(t, 0, 1, 2) },
		func(r *streamRun) { r.poll(t, 2, 1, 3) },
		func(r *streamRun) { r.ack(t, 0, 0) },
		func(r *streamRun) { r.ack(t, 2, 0) },
		func(r *streamRun) { r.ack(t, 2, 1) },
	}
	var walk func(r *streamRun, left int)
	walk = func(r *streamRun, left int) {
		r.check(t)
		for _, step := range steps {
			if left > 0 {
				next := r.copied()
				step(next)
				walk(next, left-1)
			}
		}
	}
	r := newStreamRun(0)
	r.nodes[1] = feedNode(t)
	r.poll(t, 0, 1, 2)
	walk(r, 6)
}

// With each epoch but the newest nothing is acknowledged or resynced: it is told so, and nothing changes.
func TestOtherEpochsAreFenced(t *testing.T) {
	x := feedNode(t, "cut 3")
	g := impl.NewGroup()
	for newest := 1; newest <= 30; newest++ {
		for epoch := -3; epoch <= 34; epoch++ {
			if epoch == newest {
				continue
			}
			for _, d := range append(dotsOf(1, 1, newest+3), dotsOf(2, 1, 3)...) {
				if got, new, code := impl.Ack(g, epoch, d); !alikeGroups(got, g) || new || code != impl.ErrFenced {
					t.Fatal("Ack", g, epoch, d, got, new, code)
				}
			}
			if got, code := impl.Resync(g, epoch, x); !alikeGroups(got, g) || code != impl.ErrFenced {
				t.Fatal("Resync", g, epoch, got, code)
			}
		}
		d := dot{Node: 1, N: newest}
		h, new, code := impl.Ack(g, newest, d)
		if !new || code != impl.OK || len(h.Stream) != newest {
			t.Fatal("Ack", g, newest, d, h, new, code)
		}
		// once more, ahead of the takeover and behind it
		if got, again, code := impl.Ack(h, newest, d); !alikeGroups(got, h) || again || code != impl.OK {
			t.Fatal("Ack once more", got, again, code)
		}
		g = takeoverAsTold(t, h, newest%impl.Nodes)
		if got, again, code := impl.Ack(g, newest, d); !alikeGroups(got, g) || again || code != impl.ErrFenced {
			t.Fatal("Ack once more by who was owner", got, again, code)
		}
		if got, again, code := impl.Ack(g, newest+1, d); !alikeGroups(got, g) || again || code != impl.OK {
			t.Fatal("Ack once more by the new owner", got, again, code)
		}
	}
}

// Up to the last epoch: nobody takes over any more, and its owner goes on.
func TestTheLastEpoch(t *testing.T) {
	g := group{Epoch: newestEpoch - 2, Owner: 1, Acked: vv{1, 0, 0}, Stream: dotsIn("a1")}
	g = takeoverAsTold(t, g, 2)
	g = takeoverAsTold(t, g, 0)
	for owner := range impl.Nodes {
		if got, code := impl.Takeover(g, owner); !alikeGroups(got, g) || code != impl.ErrMany {
			t.Error("Takeover", got, code)
		}
	}
	if g.Epoch != newestEpoch || g.Owner != 0 {
		t.Error("Takeover", g)
	}
	for _, epoch := range []int{newestEpoch - 2, newestEpoch - 1, newestEpoch + 1} {
		if got, new, code := impl.Ack(g, epoch, dotIn("a2")); !alikeGroups(got, g) || new || code != impl.ErrFenced {
			t.Error("Ack", epoch, got, new, code)
		}
	}
	if got, new, code := impl.Ack(g, newestEpoch, dotIn("a2")); !slices.Equal(got.Stream, dotsIn("a1", "a2")) || !new || code != impl.OK {
		t.Error("Ack", got, new, code)
	}
}

// A stream up to its last event: what has no room is not acknowledged, and not known later either.
func TestAStreamFillsUp(t *testing.T) {
	g := group{Epoch: 3, Acked: vv{impl.MaxList - 5}, Stream: dotsOf(0, 1, impl.MaxList-5)}
	for n := 1; n <= 9; n++ {
		g, _ = ackAsTold(t, g, 3, dot{Node: 2, N: n})
	}
	if len(g.Stream) != impl.MaxList || g.Acked != (vv{impl.MaxList - 5, 0, 5}) {
		t.Error(len(g.Stream), g.Acked)
	}
	g = takeoverAsTold(t, g, 1)
	if _, new := ackAsTold(t, g, 4, dotIn("c6")); new {
		t.Error("acknowledged without room")
	}
	if _, new := ackAsTold(t, g, 4, dotIn("c5")); new {
		t.Error("acknowledged twice")
	}
}

// toldOf has all that can be told of a node's feed, by whatever call.
func toldOf(t *testing.T, x node) []entry {
	t.Helper()
	var all []entry
	for n := 0; n <= x.Count+1; n++ {
		for _, k := range []int{1, 2, impl.MaxRecords} {
			list, code := impl.FeedAfter(x, n, k)
			if n < x.Cut && code != impl.ErrCut || n >= x.Cut && code != impl.OK {
				t.Fatal("FeedAfter", short(x), n, k, code)
			}
			g := impl.NewGroup()
			g.Acked[x.Id] = n
			b, code := impl.Poll(g, x, k)
			if code != impl.OK || b.Resync != (n < x.Cut) {
				t.Fatal("Poll", short(x), n, k, b, code)
			}
			all = append(all, append(list, b.Entries...)...)
		}
	}
	return append(all, x.Feed...)
}

// cutOff asks that nothing up to n is told of the node, and all else is.
func cutOff(t *testing.T, x node, n int) {
	t.Helper()
	all := toldOf(t, x)
	for number := 1; number <= x.Count; number++ {
		there := slices.ContainsFunc(all, func(e entry) bool { return e.Dot == dot{Node: x.Id, N: number} })
		if there != (number > n) {
			t.Fatal("event", number, "is told:", there, "but", n, "were cut off", short(x))
		}
	}
}

// Each cut of a node, behind each other one: of the feed alone the events up to it are gone, for good, and nothing else is
// lost: neither objects, nor counts, nor later entries, nor records.
func TestWhatIsCutOffCannotBeTold(t *testing.T) {
	for first := 1; first <= 5; first++ {
		x := feedNode(t)
		y := cutAsTold(t, givenNode{x, true}, first)
		nothingElseLost(t, x, y, first)
		for second := -1; second <= 7; second++ {
			z := cutAsTold(t, givenNode{y, true}, second)
			if first < second && second <= 5 {
				nothingElseLost(t, x, z, second)
			} else {
				nothingElseLost(t, x, z, first)
			}
		}
	}
}

// nothingElseLost holds a node that was cut at n against what it was.
func nothingElseLost(t *testing.T, x, y node, n int) {
	t.Helper()
	cutOff(t, y, n)
	if y.Id != x.Id || y.Count != x.Count || y.Cut != n {
		t.Fatal("cut at", n, short(y))
	}
	was, is := recordsIn(x), recordsIn(y)
	if !slices.Equal(is[:len(was)], was) {
		t.Fatal("records", is, "not", was)
	}
	for _, c := range x.Cells {
		if o, code := impl.ObjAt(y, c.Key); !alike(o, c.Obj) || code != impl.OK {
			t.Fatal("ObjAt", c.Key, o, code)
		}
	}
	if keys, code := impl.KeysOf(y); len(keys) != len(x.Cells) || code != impl.OK {
		t.Fatal("KeysOf", keys, code)
	}
	for from := n; from <= x.Count+1; from++ {
		for k := range 7 {
			had, _ := impl.FeedAfter(x, from, k)
			has, code := impl.FeedAfter(y, from, k)
			if !slices.Equal(has, had) || code != impl.OK {
				t.Fatal("FeedAfter", from, k, has, code, "not", had)
			}
		}
	}
}

// A cut that is sure holds behind crashes, behind more puts, and when the records are read again; one that is not sure
// may be lost with its line, and then nothing was cut.
func TestACutBehindACrash(t *testing.T) {
	x := sureTold(t, 1, feedRecords...)
	for n := 1; n <= 5; n++ {
		y := cutAsTold(t, givenNode{x, true}, n)
		line := len(y.Disk.Unsure[0])
		for torn := range line {
			z, code := impl.CrashNode(y, 0, torn)
			if code != impl.OK || !alikeNodes(z, x) {
				t.Fatal("a torn cut was done", n, torn, short(z), code)
			}
			cutOff(t, z, 0)
		}
		whole, _ := impl.CrashNode(y, 0, line)
		kept, _ := impl.CrashNode(y, 1, 0)
		synced, _ := impl.SyncNode(y)
		crashed, _ := impl.CrashNode(synced, 0, 0)
		read, code := impl.ReplayNode(1, recordsIn(y))
		if code != impl.OK {
			t.Fatal("ReplayNode", code)
		}
		for _, z := range []node{whole, kept, synced, crashed, read} {
			if !alikeNodes(z, synced) || !impl.NodeOK(z) {
				t.Fatal("behind a crash", short(z), "not", short(synced))
			}
			nothingElseLost(t, x, z, n)
			more := putAsTold(t, z, "new", vv{}, 7, false, "put new 0.6.0|b6=7")
			cutOff(t, more, n)
			if list := feedAsTold(t, givenNode{more, true}, 5, 9); !slices.Equal(list, entriesOf(1, 6, "new")) {
				t.Fatal("FeedAfter", list)
			}
		}
	}
}

// A group that is behind a cut is told so, takes up what is left by a resync, and acknowledges nothing of what was cut off
// any more.
func TestAGroupBehindACut(t *testing.T) {
	for acked := range 6 {
		for cut := 1; cut <= 5; cut++ {
			x := cutAsTold(t, givenNode{feedNode(t), true}, cut)
			g := group{Epoch: 4, Owner: 1, Acked: vv{7, acked, 7}, Stream: dotsOf(1, 1, acked)}
			b := pollAsTold(t, g, givenNode{x, true}, 9)
			if b.Resync != (acked < cut) {
				t.Error("Poll", acked, cut, b)
			}
			if b.Resync {
				// the events behind the cut are not the next ones
				if got, new, code := impl.Ack(g, 4, dot{Node: 1, N: cut + 1}); !alikeGroups(got, g) || new || code != impl.ErrOrder {
					t.Error("Ack", acked, cut, got, new, code)
				}
			}
			g = resyncAsTold(t, g, 4, givenNode{x, true})
			if g.Acked != (vv{7, max(acked, cut), 7}) || len(g.Stream) != acked {
				t.Error("Resync", acked, cut, g)
			}
			for n := 1; n <= cut; n++ {
				if got, new, code := impl.Ack(g, 4, dot{Node: 1, N: n}); !alikeGroups(got, g) || new || code != impl.OK {
					t.Error("Ack of what was cut off", n, got, new, code)
				}
			}
			b = pollAsTold(t, g, givenNode{x, true}, 9)
			if b.Resync || !slices.Equal(b.Entries, feedEntries[max(acked, cut):]) {
				t.Error("Poll", acked, cut, b)
			}
			for _, e := range b.Entries {
				var new bool
				if g, new = ackAsTold(t, g, b.Epoch, e.Dot); !new {
					t.Error("Ack", e, g)
				}
			}
			want := append(dotsOf(1, 1, acked), dotsOf(1, max(acked, cut)+1, 5)...)
			if !slices.Equal(g.Stream, want) {
				t.Error("Stream", g.Stream, "not", want)
			}
		}
	}
}
