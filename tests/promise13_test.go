package tests

import (
	"slices"
	"testing"

	"loop.example/g00535/impl"
)

// Promise 13: a view is what keys make, in whatever order they are applied.

// applyAll applies keys one by one.
func applyAll(t *testing.T, rows []row, x node, keys ...string) []row {
	t.Helper()
	for _, key := range keys {
		next, code := impl.ApplyKey(rows, x, key)
		if code != impl.OK || !impl.RowsOK(next) {
			t.Fatal("ApplyKey", short(rows), key, short(next), code)
		}
		rows = next
	}
	return rows
}

func batchOf(t *testing.T, rows []row, x node, keys ...string) []row {
	t.Helper()
	next, code := impl.ApplyBatch(rows, x, entriesOf(x.Id, 1, keys...))
	if code != impl.OK || !impl.RowsOK(next) {
		t.Fatal("ApplyBatch", short(rows), keys, short(next), code)
	}
	return next
}

// eachOrder asks of each order of the keys.
func eachOrder(keys []string, ask func(keys []string)) {
	var walk func(ahead, left []string)
	walk = func(ahead, left []string) {
		if len(left) == 0 {
			ask(ahead)
		}
		for i, key := range left {
			walk(append(slices.Clone(ahead), key), slices.Concat(left[:i], left[i+1:]))
		}
	}
	walk(nil, keys)
}

// shuffled is the keys in an order that is drawn.
func (h *history) shuffled(keys []string) []string {
	keys = slices.Clone(keys)
	for i := range keys {
		k := i + h.draw(len(keys)-i)
		keys[i], keys[k] = keys[k], keys[i]
	}
	return keys
}

// A view has of each of its keys just what that key makes by itself, and nothing else.
func TestAViewIsWhatItsKeysMake(t *testing.T) {
	for i, x := range append(viewNodes(t), rightNodes(t)...) {
		view := viewAsTold(t, givenNode{x, true})
		many := 0
		for _, c := range x.Cells {
			var own []row
			for _, r := range view {
				if r.Key == c.Key {
					own = append(own, r)
				}
			}
			many += len(own)
			if alone := applyAll(t, nil, x, c.Key); !alikeRows(alone, own) {
				t.Fatal("node", i, "key", c.Key, "alone", alone, "not", own)
			}
			if alone := batchOf(t, nil, x, c.Key); !alikeRows(alone, own) {
				t.Fatal("node", i, "a batch of", c.Key, "alone", alone, "not", own)
			}
			ownAsValues(t, own, c.Obj)
		}
		if many != len(view) {
			t.Fatal("node", i, "rows of keys that it has not", short(view))
		}
		if all := applyAll(t, nil, x, keysTold(x)...); !alikeRows(all, view) || !impl.SameRows(all, view) {
			t.Fatal("node", i, "all keys", short(all), "not", short(view))
		}
	}
}

// ownAsValues: the rows of a key have the object's values, each once, and no other ones.
func ownAsValues(t *testing.T, own []row, o obj) {
	t.Helper()
	values, code := impl.LiveValues(o)
	if code != impl.OK {
		t.Fatal("LiveValues", code)
	}
	var there []int
	for _, r := range own {
		for _, value := range r.Values {
			if value%4 != r.Part || slices.Contains(there, value) || !slices.Contains(values, value) {
				t.Fatal("a value of another part, that is there twice, or that is not alive:", value, own)
			}
			there = append(there, value)
		}
	}
	for _, value := range values {
		if !slices.Contains(there, value) {
			t.Fatal("a value that is alive is not there:", value, own)
		}
	}
}

// Each order of six keys: some of which say that there is nothing, and rows that were there already, right or not.
func TestEachOrderOfKeys(t *testing.T) {
	x := viewNode(t)
	keys := []string{"a", "b", "all", "gone", "ab", "new"}
	for _, rows := range [][]row{nil, viewRows, rowsIn("0 a 0", "0 gone 4", "1 b 1 5 9", "2 new 2", "3 all 7", "3 z 3")} {
		want := factsIn(rows)
		for _, key := range keys {
			want = want.with(key, objsOf(x)[key])
		}
		eachOrder(keys, func(order []string) {
			if got := applyAll(t, rows, x, order...); !alikeRows(got, want.rows()) {
				t.Fatal("ApplyKey", order, got, "not", want.rows())
			}
			if got := batchOf(t, rows, x, order...); !alikeRows(got, want.rows()) {
				t.Fatal("ApplyBatch", order, got, "not", want.rows())
			}
			if got := applyAll(t, batchOf(t, rows, x, order[:3]...), x, order[3:]...); !alikeRows(got, want.rows()) {
				t.Fatal("a batch, then keys", order, got, "not", want.rows())
			}
		})
	}
}

// Drawn orders of all keys of a node, some of them several times, one by one and in batches of any length: it is the view
// in the end, whatever keys of it the rows had ahead of this.
func TestDrawnOrdersOfKeys(t *testing.T) {
	for i, x := range append(viewNodes(t), rightNodes(t)...) {
		view := viewAsTold(t, givenNode{x, true})
		h := history{state: uint32(i)}
		for _, stale := range [][]row{nil, view, ownKeys(x, rowsOfKeys(100, oneValue)), ownKeys(x, rowsIn("0 b 0", "0 k 0 4", "2 zzzzzz 2", "3 a 3 7"))} {
			order := h.shuffled(keysTold(x))
			for range min(5, len(order)) {
				order = slices.Insert(order, h.draw(len(order)), order[h.draw(len(order))])
			}
			one, some := stale, stale
			for n := 0; n < len(order); {
				to := min(len(order), n+h.draw(30))
				if lines(x.Disk) < 20 {
					one = applyAll(t, one, x, order[n:to]...)
				} else {
					one = applyAll(t, batchOf(t, one, x, order[n:to]...), x, order[n:min(to, n+2)]...)
				}
				some = batchOf(t, some, x, order[n:to]...)
				n = to
			}
			if !alikeRows(one, view) || !alikeRows(some, view) {
				t.Fatal("node", i, "order", order, short(one), short(some), "not", short(view))
			}
		}
	}
}

// ownKeys leaves rows of keys that the node has.
func ownKeys(x node, rows []row) []row {
	return factsIn(rows).of(func(key string) bool { return slices.Contains(keysTold(x), key) }).rows()
}

// Each two keys, in either order, and each of them twice.
func TestEachTwoKeys(t *testing.T) {
	x := viewNode(t)
	keys := append(keysTold(x), "new", "z")
	for _, rows := range [][]row{nil, viewRows, rowsIn("0 a 4", "1 z 1", "3 b 3"), rowsOfKeys(90, oneValue)} {
		for _, a := range keys {
			once := applyAll(t, rows, x, a)
			if twice := applyAll(t, once, x, a); !alikeRows(twice, once) {
				t.Fatal("twice", a, short(twice), "not", short(once))
			}
			for _, b := range keys {
				both := applyAll(t, once, x, b)
				for _, order := range [][]string{{b, a}, {a, b, a}, {b, a, b}, {a, a, b}, {b, b, a, a}} {
					if got := applyAll(t, rows, x, order...); !alikeRows(got, both) {
						t.Fatal(order, short(got), "not", short(both))
					}
					if got := batchOf(t, rows, x, order...); !alikeRows(got, both) {
						t.Fatal("batch", order, short(got), "not", short(both))
					}
				}
			}
		}
	}
}

// A key that is applied once more changes nothing, wherever it stands.
func TestAKeyAppliedTwice(t *testing.T) {
	for i, x := range append(viewNodes(t), rightNodes(t)...) {
		view := viewAsTold(t, givenNode{x, true})
		for k, key := range append(keysTold(x), "new") {
			if k > 5 && k < len(x.Cells)-2 {
				continue
			}
			if got := applyAll(t, view, x, key, key); !alikeRows(got, view) {
				t.Fatal("node", i, key, short(got), "not", short(view))
			}
			if got := batchOf(t, view, x, key, key); !alikeRows(got, view) {
				t.Fatal("node", i, "batch", key, short(got), "not", short(view))
			}
		}
		if got := batchOf(t, view, x, slices.Concat(keysTold(x), keysTold(x))...); !alikeRows(got, view) {
			t.Fatal("node", i, "all keys", short(got), "not", short(view))
		}
	}
}

// Without room the order of a batch is not seen either: each order has the same rows, or the same code.
func TestOrdersOfBatchesWithoutRoom(t *testing.T) {
	x := sureTold(t, 1, joinsOf("one "+valuesAt(4, 8), "two "+valuesAt(1, 2), "aac "+valuesAt(2, 3))...)
	there, not := 0, 0
	for _, many := range []int{397, 398, 399, 400} {
		rows := rowsOfPart(2, many)
		for _, keys := range [][]string{{"one", "aaa"}, {"two", "aaa", "aab"}, {"one", "two", "aaa"}, {"one", "two", "aaa", "aab", "none"}, {"aac", "aaa", "aab", "two"}, {"aac", "two"}} {
			want, wantCode := impl.ApplyBatch(rows, x, entriesOf(1, 1, keys...))
			eachOrder(keys, func(order []string) {
				applyBatchAsTold(t, rows, givenNode{x, true}, entriesOf(1, 1, order...))
				if got, code := impl.ApplyBatch(rows, x, entriesOf(1, 1, order...)); !alikeRows(got, want) || code != wantCode {
					t.Fatal("ApplyBatch", many, order, short(got), code, "not", short(want), wantCode)
				}
			})
			if wantCode == impl.OK {
				there++
			} else {
				not++
			}
		}
	}
	if there < 5 || not < 5 { // else it would show little
		t.Error(there, not)
	}
}

// A run of one node, and of a group and rows that follow its feed. Beside the rows stands what they must say.
type viewRun struct {
	nodeRun
	group group
	rows  []row
	told  facts
}

func newViewRun(seed uint32) *viewRun {
	x := node{Id: int(seed) % impl.Nodes}
	return &viewRun{nodeRun: nodeRun{history: history{state: seed}, node: x}, group: impl.NewGroup(), told: facts{}}
}

// put has few values, so that many come twice.
func (r *viewRun) put(t *testing.T) {
	t.Helper()
	p, key := r.plain(t), runKeys[r.draw(len(runKeys))]
	ctx := vv{}
	if r.draw(3) > 0 {
		ctx = p.objs[key].Seen
		ctx[p.id] = min(ctx[p.id], r.draw(p.count+1))
	}
	new := live(p.id, p.count+1, r.draw(9))
	if r.draw(4) == 0 {
		new = tomb(p.id, p.count+1)
	}
	x, _, code := impl.PutNode(r.node, key, ctx, new.Value, new.Dead)
	if code != impl.OK {
		t.Fatal("PutNode", code)
	}
	r.node, r.list = x, append(r.list, "put "+key+" "+objTold(writtenTold(p.objs[key], ctx, new)))
}

// poll applies what is new in the feed; behind a cut the view is taken anew.
func (r *viewRun) poll(t *testing.T, k int) {
	t.Helper()
	x := givenNode{r.node, true}
	b := pollAsTold(t, r.group, x, k)
	if b.Resync {
		r.group = resyncAsTold(t, r.group, r.group.Epoch, x)
		r.rows = viewAsTold(t, x)
		r.told = factsOf(r.plain(t).objs)
		return
	}
	r.rows = applyBatchAsTold(t, r.rows, x, b.Entries)
	for _, e := range b.Entries {
		r.group, _ = ackAsTold(t, r.group, b.Epoch, e.Dot)
		r.told = r.told.with(e.Key, r.plain(t).objs[e.Key])
	}
}

func (r *viewRun) checkRows(t *testing.T) {
	t.Helper()
	if !alikeRows(r.rows, r.told.rows()) {
		t.Fatal("rows", r.rows, "not", r.told.rows())
	}
}

// wrote says of which keys the node's feed tells.
func (r *viewRun) wrote(key string) bool {
	return slices.ContainsFunc(feedTold(r.node, 0, impl.MaxRecords), func(e entry) bool { return e.Key == key })
}

// Rows that follow a node to which nothing is joined are its view whenever all of the feed has come.
func TestAViewThatFollowsAFeed(t *testing.T) {
	for seed := range uint32(60) {
		r := newViewRun(seed)
		for range 60 {
			r.put(t)
			if r.draw(3) == 0 {
				r.poll(t, r.draw(5))
				r.checkRows(t)
			}
			if r.draw(8) > 0 {
				continue
			}
			for r.group.Acked[r.Id] < r.Count {
				r.poll(t, 1+r.draw(7))
			}
			r.checkRows(t)
			if view := viewAsTold(t, givenNode{r.node, true}); !alikeRows(r.rows, view) {
				t.Fatal("followed", r.rows, "not", view)
			}
		}
	}
}

// Whatever comes between, joins, cuts, crashes and syncs: each poll makes the keys that it tells what the node has of
// them. All of the feed, applied at once, is the node's view of the keys that it wrote.
func TestRunsOfViews(t *testing.T) {
	resyncs, twice := 0, 0
	for seed := range uint32(240) {
		r := newViewRun(seed)
		for range 50 {
			cut := r.Cut > r.group.Acked[r.Id]
			switch r.draw(9) {
			case 0, 1, 2:
				r.put(t)
			case 3, 4, 5:
				r.poll(t, r.draw(6))
				if cut {
					resyncs++
				}
			default:
				r.nodeRun.step(t)
			}
			r.checkRows(t)
		}
		r.follow(t)
		for _, o := range r.plain(t).objs {
			values, _ := impl.LiveValues(o)
			if len(slices.Compact(slices.Sorted(slices.Values(values)))) < len(values) {
				twice++
			}
		}
	}
	if resyncs < 50 || twice < 30 { // else the runs would show little
		t.Error("resyncs", resyncs, "objects with values that come twice", twice)
	}
}

// follow applies the whole feed of a node, to nothing, to what there was, and backwards.
func (r *viewRun) follow(t *testing.T) {
	t.Helper()
	x := r.node
	all := feedTold(x, 0, impl.MaxRecords) // with those that were cut off
	want := factsOf(r.plain(t).objs).of(r.wrote)
	if got := applyBatchAsTold(t, nil, givenNode{x, true}, all); !alikeRows(got, want.rows()) {
		t.Fatal("the feed", got, "not", want.rows())
	}
	back := slices.Clone(all)
	slices.Reverse(back)
	if got := applyBatchAsTold(t, nil, givenNode{x, true}, back); !alikeRows(got, want.rows()) {
		t.Fatal("the feed backwards", got, "not", want.rows())
	}
	left := r.told.of(func(key string) bool { return !r.wrote(key) })
	for each := range want {
		left[each] = true
	}
	if got := applyBatchAsTold(t, r.rows, givenNode{x, true}, all); !alikeRows(got, left.rows()) {
		t.Fatal("the feed once more", got, "not", left.rows())
	}
}

// Rows that followed one node become another one's when the keys of both are applied from that.
func TestRowsOfAnotherNode(t *testing.T) {
	nodes := append(viewNodes(t)[:10], rightNodes(t)[:8]...)
	for i, x := range nodes {
		for k, y := range nodes {
			keys := slices.Concat(keysTold(x), keysTold(y))
			want := viewAsTold(t, givenNode{y, true})
			if got := batchOf(t, viewAsTold(t, givenNode{x, true}), y, keys...); !alikeRows(got, want) {
				t.Fatal(i, k, short(got), "not", short(want))
			}
		}
	}
}
