package tests

import (
	"slices"
	"strconv"
	"strings"
	"testing"

	"loop.example/g00535/impl"
)

// Promise 6: what is put is there; behind a crash a node is what a beginning of its records makes, with all that was
// sure.

// What a write makes of an object, and what a join makes of two, told by plain loops.
func writtenTold(had obj, ctx vv, new sibling) obj {
	o := obj{Sibs: []sibling{new}, Seen: had.Seen}
	for _, s := range had.Sibs {
		if s.Dot.N > ctx[s.Dot.Node] {
			o.Sibs = append(o.Sibs, s)
		}
	}
	for i, n := range ctx {
		o.Seen[i] = max(o.Seen[i], n)
	}
	o.Seen[new.Dot.Node] = new.Dot.N
	return inOrder(o)
}

func joinedTold(a, b obj) obj {
	var o obj
	for _, s := range a.Sibs {
		if s.Dot.N > b.Seen[s.Dot.Node] || hasDot(b.Sibs, s.Dot) {
			o.Sibs = append(o.Sibs, s)
		}
	}
	for _, s := range b.Sibs {
		if s.Dot.N > a.Seen[s.Dot.Node] {
			o.Sibs = append(o.Sibs, s)
		}
	}
	for i := range o.Seen {
		o.Seen[i] = max(a.Seen[i], b.Seen[i])
	}
	return inOrder(o)
}

func inOrder(o obj) obj {
	slices.SortFunc(o.Sibs, func(a, b sibling) int {
		if a.Dot.Node != b.Dot.Node {
			return a.Dot.Node - b.Dot.Node
		}
		return a.Dot.N - b.Dot.N
	})
	return o
}

// A run of puts, joins, syncs, cuts and crashes of one node, and beside it the plain list of the records that must come
// back, the first of which are sure.
type nodeRun struct {
	history
	node
	list []string
	sure int
}

var runKeys = []string{"a", "b", "ab", "zzzzzz"}

func (r *nodeRun) plain(t *testing.T) *plainNode {
	t.Helper()
	p, ok := plainOf(r.Id, r.list)
	if !ok {
		t.Fatal("the list does not follow", short(r.list))
	}
	return p
}

// check holds the node against what the list makes.
func (r *nodeRun) check(t *testing.T) {
	t.Helper()
	want := r.plain(t).node(r.list, r.sure)
	if !alikeNodes(r.node, want) || !impl.NodeOK(r.node) {
		t.Fatal("a node that its records do not make:", short(r.node), "not", short(want))
	}
}

func (r *nodeRun) drawVv(p *plainNode) vv {
	switch r.draw(4) {
	case 0:
		return vv{}
	case 1:
		return p.objs[runKeys[r.draw(len(runKeys))]].Seen
	}
	v := vv{r.draw(6), r.draw(6), r.draw(6)}
	v[p.id] = r.draw(p.count + 1)
	return v
}

func (r *nodeRun) put(t *testing.T) {
	t.Helper()
	p, key := r.plain(t), runKeys[r.draw(len(runKeys))]
	ctx := r.drawVv(p)
	new := live(p.id, p.count+1, r.draw(impl.MaxValue+1))
	if r.draw(3) == 0 {
		new = tomb(p.id, p.count+1)
	}
	x, d, code := impl.PutNode(r.node, key, ctx, new.Value, new.Dead)
	if len(r.list) == impl.MaxRecords {
		if !alikeNodes(x, r.node) || d != (dot{}) || code != impl.ErrFull {
			t.Fatal("PutNode without room", d, code)
		}
		return
	}
	if code != impl.OK || d != new.Dot {
		t.Fatal("PutNode", key, ctx, new, d, code)
	}
	there, code := impl.ObjAt(x, key)
	if code != impl.OK || !alike(there, writtenTold(p.objs[key], ctx, new)) {
		t.Fatal("what was put is not there", key, ctx, new, there, code)
	}
	if last := x.Feed[len(x.Feed)-1]; last != (entry{Dot: d, Key: key}) {
		t.Fatal("what was put is not in the feed", last)
	}
	r.node, r.list = x, append(r.list, "put "+key+" "+objTold(there))
}

func (r *nodeRun) join(t *testing.T) {
	t.Helper()
	p, key := r.plain(t), runKeys[r.draw(len(runKeys))]
	o := obj{Seen: r.drawVv(p)}
	for id, known := range o.Seen {
		for n := 1; n <= known; n++ {
			if r.draw(3) == 0 {
				o.Sibs = append(o.Sibs, written(dot{Node: id, N: n}))
			}
		}
	}
	both := joinedTold(p.objs[key], o)
	news := !alike(both, p.objs[key])
	x, brought, code := impl.JoinNode(r.node, key, o)
	if news && len(r.list) == impl.MaxRecords {
		if !alikeNodes(x, r.node) || brought || code != impl.ErrFull {
			t.Fatal("JoinNode without room", brought, code)
		}
		return
	}
	if code != impl.OK || brought != news {
		t.Fatal("JoinNode", key, o, brought, code)
	}
	r.node = x
	if news {
		r.list = append(r.list, "join "+key+" "+objTold(both))
	}
}

func (r *nodeRun) cut(t *testing.T) {
	t.Helper()
	p := r.plain(t)
	if p.count == p.cut {
		return
	}
	n := p.cut + 1 + r.draw(p.count-p.cut)
	x, code := impl.CutFeed(r.node, n)
	if len(r.list) == impl.MaxRecords {
		if !alikeNodes(x, r.node) || code != impl.ErrFull {
			t.Fatal("CutFeed without room", n, code)
		}
		return
	}
	if code != impl.OK {
		t.Fatal("CutFeed", n, code)
	}
	r.node, r.list = x, append(r.list, "cut "+strconv.Itoa(n))
}

func (r *nodeRun) sync(t *testing.T) {
	t.Helper()
	x, code := impl.SyncNode(r.node)
	if code != impl.OK {
		t.Fatal("SyncNode", code)
	}
	r.node, r.sure = x, len(r.list)
}

// Behind a crash there is all that was sure, what the crash keeps, and of the next line all or nothing.
func (r *nodeRun) crash(t *testing.T, keep, torn int) {
	t.Helper()
	x, code := impl.CrashNode(r.node, keep, torn)
	if code != impl.OK {
		t.Fatal("CrashNode", keep, torn, code)
	}
	left := min(r.sure+keep, len(r.list))
	if left < len(r.list) && torn >= len(sealTold(r.list[left])) {
		left++
	}
	r.node, r.list, r.sure = x, r.list[:left:left], left
}

func (r *nodeRun) step(t *testing.T) {
	t.Helper()
	switch r.draw(16) {
	case 0:
		r.sync(t)
	case 1:
		r.crash(t, r.draw(len(r.Disk.Unsure)+2), 0)
	case 2:
		r.crash(t, r.draw(len(r.Disk.Unsure)+1), r.draw(60))
	case 3:
		r.cut(t)
	case 4, 5, 6, 7, 8:
		r.join(t)
	default:
		r.put(t)
	}
	r.check(t)
}

func TestRunsOfANode(t *testing.T) {
	for seed := range uint32(240) {
		x, code := impl.NewNode(int(seed) % impl.Nodes)
		if code != impl.OK {
			t.Fatal("NewNode", code)
		}
		r := nodeRun{history: history{state: seed}, node: x}
		for range 50 {
			r.step(t)
		}
	}
}

// Without crashes a run fills the disk, and a crash leaves of a full one what was sure.
func TestARunUpToTheLastLine(t *testing.T) {
	for seed := range uint32(3) {
		r := nodeRun{history: history{state: seed}, node: node{Id: int(seed)}}
		for len(r.list) < impl.MaxRecords {
			if r.draw(30) == 0 {
				r.sync(t)
			}
			switch r.draw(8) {
			case 0:
				r.cut(t)
			case 1, 2, 3:
				r.join(t)
			default:
				r.put(t)
			}
		}
		r.check(t)
		for range 20 {
			r.put(t)
			r.join(t)
			r.cut(t)
		}
		r.check(t)
		for r.sure < len(r.list) {
			r.crash(t, 0, 0)
			r.check(t)
		}
	}
}

// Each crash of a small node, torn at each byte of each of its lines.
func TestEachCrashOfASmallNode(t *testing.T) {
	for sure := range len(someRecords) + 1 {
		for keep := range len(someRecords) + 2 {
			size := 3
			if sure+keep < len(someRecords) {
				size += len(sealTold(someRecords[sure+keep]))
			}
			for torn := range size {
				r := nodeRun{node: nodeTold(t, 0, sure, someRecords...), list: someRecords, sure: sure}
				r.crash(t, keep, torn)
				r.check(t)
				r.crash(t, 0, 0) // all of it is sure: no other crash takes any of it
				r.check(t)
			}
		}
	}
}

// A crash of a full node, with each number of lines that are sure.
func TestCrashesOfFullNodes(t *testing.T) {
	records := puts(1, impl.MaxRecords, oneKey)
	for sure := 0; sure <= impl.MaxRecords; sure += 25 {
		for _, keep := range []int{0, 1, 24, 25, 26, impl.MaxRecords - 1, impl.MaxRecords} {
			for _, torn := range []int{0, 1, 20, impl.MaxText} {
				r := nodeRun{node: nodeTold(t, 0, sure, records...), list: records, sure: sure}
				r.crash(t, keep, torn)
				r.check(t)
			}
		}
	}
}

// Behind a crash a node goes on: an event that was lost is the next one again.
func TestALostEventIsTheNextOne(t *testing.T) {
	x := nodeTold(t, 1, 1, "put b 0.1.0|b1=5", "put b 0.2.0|b2=6")
	x, code := impl.CrashNode(x, 0, 20)
	if code != impl.OK || x.Count != 1 || len(x.Feed) != 1 {
		t.Fatal("CrashNode", short(x), code)
	}
	x = putAsTold(t, x, "b", vv{}, 7, false, "put b 0.2.0|b1=5|b2=7")
	if o, code := impl.ObjAt(x, "b"); !alike(o, object(vv{0, 2}, live(1, 1, 5), live(1, 2, 7))) || code != impl.OK {
		t.Error("ObjAt", o, code)
	}
}

// Records that do not follow, each behind records that do, at the end and in the middle.
func TestRecordsThatDoNotFollow(t *testing.T) {
	ahead := []string{"put b 0.1.0|b1=5", "put a 0.2.0|b2=6", "join b 0.1.4|b1=5|c4!", "put b 0.3.4|b1=5|b3=7|c4!", "cut 1"}
	more := "join d 9.0.0"
	for _, none := range []string{
		// it does not cover what the key had: it knows less, or has again what is known to be gone
		"put b 0.4.0|b1=5|b3=7|b4=1", "put b 0.4.3|b4=1", "put b 0.4.9|b2=6|b4=1", "put b 0.4.4|b4=1|c3=1", "put b 0.4.4|b4=1|c1!",
		"join b 0.2.4|b1=5", "join b 0.3.3|b1=5|b3=7", "join b 9.3.0|a9=1", "join b 0.3.5|b2=6", "join b 0.3.4|b1=5|b2=6|b3=7|c4!",
		"join a 9.1.0", "join a 9.1.0|b1=5", "join a 9.2.0|b1=5|b2=6",
		// the same one
		"put b 0.3.4|b1=5|b3=7|c4!", "put a 0.2.0|b2=6", "join b 0.3.4|b1=5|b3=7|c4!", "join a 0.2.0|b2=6", "join c 0.0.0",
		// not the next event as a sibling, though it may be known, and no later one
		"put b 0.4.4|b1=5|b3=7|c4!", "put b 0.4.4", "put b 0.3.5|b3=7|c5=1", "put b 0.5.4|b5=1", "put b 0.5.4|b4=1|b5=1", "put b 0.5.4|b4=1",
		"put b 0.9999.4|b4=1", "put b 0.5.4", "put c 0.4.0", "put c 0.0.4|c4=1", "put c 4.0.0|a4=1", "put c 0.3.0|b3=1", "put c 0.1.0|b1=1",
		"put c 0.0.0", "put c 0.5.0|b5=1", "put c 0.5.0|b4=1",
		// a join of events that were not
		"join b 0.4.4|b4=1", "join b 0.4.4", "join c 0.4.0", "join c 0.4.0|b1=5", "join c 0.9999.0|b9999=1", "join c 9.4.9",
		// cuts that are none
		"cut 0", "cut 1", "cut 4", "cut 9999", "cut 10000", "cut -1", "cut -2", "cut +2", "cut 02", "cut 002", "cut 2 ", "cut  2", "cut 2 3", "cut2",
		"cut", "cut ", " cut 2", "cut 2.0", "cut 2a", "cut a", "cut b 2", "cut 0x2", "cut 18446744073709551618", "cut " + strings.Repeat("2", 100),
		"Cut 2", "CUT 2", "cut\t2", "cut 2\n", "cut \xb2", "cut \u0662",
		// blanks, words, keys
		"", " ", "  ", "   ", "put", "put ", "put c", "put c ", "put  ", "join", "join c", "join c ", "put  c 0.4.0|b4=1", "put c  0.4.0|b4=1",
		" put c 0.4.0|b4=1", "put c 0.4.0|b4=1 ", "put c 0.4.0|b4=1 x", "put c 0.4.0 |b4=1", "put c 0.4.0| b4=1", "putc 0.4.0|b4=1", "put c0.4.0|b4=1",
		"put\tc 0.4.0|b4=1", "put c\t0.4.0|b4=1", "put c 0.4.0|b4=1\n", "\nput c 0.4.0|b4=1", "put c 0.4.0|b4=1\x00", "Put c 0.4.0|b4=1",
		"puts c 0.4.0|b4=1", "x c 0.4.0|b4=1", "pu c 0.4.0|b4=1", "c 0.4.0|b4=1", "0.4.0|b4=1", "put 0.4.0|b4=1", "put c c 0.4.0|b4=1",
		"join  c 9.0.0", "join c  9.0.0", " join c 9.0.0", "join c 9.0.0 ", "joinc 9.0.0", "join 9.0.0", "JOIN c 9.0.0", "merge c 9.0.0",
		"put C 0.4.0|b4=1", "put c1 0.4.0|b4=1", "put sevenaa 0.4.0|b4=1", "put _ 0.4.0|b4=1", "put \xff 0.4.0|b4=1", "put \u00e4 0.4.0|b4=1",
		"join C 9.0.0", "join sevenaa 9.0.0", "join - 9.0.0",
		// an object's text that is none
		"put c b4=1", "put c 0.4.0|b4", "put c 0.4.0|b4=", "put c 0.4.0|b4=1|", "put c 0.4.0|b4=1000", "put c 0.4.0|b4=-1", "put c 0.4.0|b4=01",
		"put c 0.4.0|b04=1", "put c 0.04.0|b4=1", "put c 0.+4.0|b4=1", "put c 0.4|b4=1", "put c 0.4.0|b4=1|b4=1", "put c 0.4.0|b4=1|a1=1", "put c 0.3.0|b4=1",
		"put c 0.4.0|a1=1|b4=1", "put c 0.4.0|b4!1", "join c 9.0", "join c 09.0.0", "join c 9.0.0|", "join c a9=1", "join c 9.0.0|a10=1", "join c 10000.0.0",
		"put c 0.4.0|b4=1" + strings.Repeat(" ", impl.MaxText), "put c 0.4.0|b4=1" + strings.Repeat("|c1=1", impl.MaxText),
		strings.Repeat(" ", impl.MaxText+5), "join c 9.0.0" + strings.Repeat("0", 3*impl.MaxText),
		sealTold("put c 0.4.0|b4=1"),
	} {
		for _, records := range [][]string{append(slices.Clone(ahead), none), append(slices.Clone(ahead), none, more), append(slices.Clone(ahead), more, none)} {
			if _, ok := plainOf(1, records); ok {
				t.Fatal("these do follow", short(records))
			}
			if got, code := impl.ReplayNode(1, records); !isZeroNode(got) || code != impl.ErrForm {
				t.Errorf("ReplayNode with %.60q = %s, %d", none, short(got), code)
			}
		}
	}
	replayedAsItStands(t, 1, append(slices.Clone(ahead), more)...)
}

// Beside those that do not follow there are some that do.
func TestRecordsThatFollow(t *testing.T) {
	ahead := []string{"put b 0.1.0|b1=5", "put a 0.2.0|b2=6", "join b 0.1.4|b1=5|c4!", "put b 0.3.4|b1=5|b3=7|c4!", "cut 1"}
	for _, record := range []string{"put b 0.4.4|b4=1", "put b 0.4.4|b1=5|b3=7|b4=1|c4!", "put b 0.4.5|b3=7|b4!|c5=1", "put b 9999.4.9999|a9999=0|b4=1",
		"put b 0.4.4|b1=999|b4=0", "put c 0.4.0|b4=1", "put c 0.4.0|b1=5|b4=1", "put cut 3.4.0|a1=1|b4=1", "put zzzzzz 0.4.0|b4!", "join b 0.3.4",
		"join b 0.3.5|b1=5|b3=7|c4!", "join b 0.3.4|b1=6|b3=7|c4!", "join b 9.3.4|a9=1|b1=5|b3=7|c4=9", "join c 0.3.0", "join c 0.3.0|b1=5|b2=6|b3=7",
		"join put 9999.3.9999", "join a 0.3.0|b2=6", "join a 0.2.0", "join a 0.3.0|b2=6|b3=9", "cut 2", "cut 3"} {
		records := append(slices.Clone(ahead), record)
		if _, ok := plainOf(1, records); !ok {
			t.Fatal("these do not follow", record)
		}
		replayedAsItStands(t, 1, records...)
	}
}

// The last key, and one more; a record of a key that is there is no new one.
func TestRecordsOfTooManyKeys(t *testing.T) {
	keys := puts(1, impl.MaxKeys, eachItsKey)
	replayedAsItStands(t, 0, append(slices.Clone(keys), "put aa 101.0.0|a101=1", "join ab 2.0.1|a2=2")...)
	for _, none := range []string{"put new 101.0.0|a101=1", "join new 0.0.1", "put a 101.0.0|a101=1"} {
		records := append(slices.Clone(keys), none)
		if got, code := impl.ReplayNode(0, records); !isZeroNode(got) || code != impl.ErrForm {
			t.Error("ReplayNode", none, short(got), code)
		}
	}
}

// Each object of few events behind each other one, put or joined, at each node.
func TestEachSmallRecordBehindEachOther(t *testing.T) {
	var texts []string
	for _, o := range smallReplicas(vv{2, 1, 1}) {
		texts = append(texts, objTold(o))
	}
	for id := range impl.Nodes {
		for _, first := range texts {
			for _, second := range texts {
				replayedAsItStands(t, id, "put k "+first, "put k "+second)
				replayedAsItStands(t, id, "put k "+first, "join k "+second)
				replayedAsItStands(t, id, "join k "+first, "put k "+second)
				replayedAsItStands(t, id, "join k "+first, "join k "+second)
			}
		}
	}
}

// Records that are one byte away from those that follow.
func TestRecordsThatNearlyFollow(t *testing.T) {
	records := []string{"put b 0.1.0|b1=5", "join b 3.1.0|a3!|b1=5", "put ab 3.2.0|b2=17", "cut 1"}
	replayedAsItStands(t, 1, records...)
	for i, record := range records {
		ask := func(changed string) {
			replayedAsItStands(t, 1, append(slices.Clone(records[:i]), changed)...)
		}
		for at := range len(record) + 1 {
			for b := range 256 {
				ask(record[:at] + string([]byte{byte(b)}) + record[at:])
			}
		}
		for at := range len(record) {
			ask(record[:at])
			ask(record[at:])
			ask(record[:at] + record[at+1:])
			for b := range 256 {
				ask(record[:at] + string([]byte{byte(b)}) + record[at+1:])
			}
		}
	}
}

// Each cut of a node with few events, one behind another.
func TestEachCut(t *testing.T) {
	for count := range 5 {
		for first := range 7 {
			for second := range 7 {
				records := puts(1, count, oneKey)
				records = append(records, "cut "+strconv.Itoa(first))
				replayedAsItStands(t, 0, records...)
				replayedAsItStands(t, 0, append(records, "cut "+strconv.Itoa(second))...)
			}
		}
	}
}
