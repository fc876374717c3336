package tests

import (
	"fmt"
	"maps"
	"math"
	"regexp"
	"slices"
	"strconv"
	"strings"
	"testing"

	"loop.example/g00535/impl"
)

type (
	cell  = impl.Cell
	entry = impl.Entry
	node  = impl.Node
)

// Empty lists and nil are the same.
func alikeNodes(a, b node) bool {
	return a.Id == b.Id && a.Count == b.Count && a.Cut == b.Cut && alikeDisks(a.Disk, b.Disk) && slices.Equal(a.Feed, b.Feed) &&
		slices.EqualFunc(a.Cells, b.Cells, func(x, y cell) bool { return x.Key == y.Key && alike(x.Obj, y.Obj) })
}

// short tells the beginning of what may be long.
func short(what any) string { return fmt.Sprintf("%.400s", fmt.Sprint(what)) }

func isZeroNode(x node) bool { return alikeNodes(x, node{}) }

func copyOfNode(x node) node {
	x.Cells = slices.Clone(x.Cells)
	for i, c := range x.Cells {
		x.Cells[i].Obj.Sibs = slices.Clone(c.Obj.Sibs)
	}
	x.Feed = slices.Clone(x.Feed)
	x.Disk = copyOfDisk(x.Disk)
	return x
}

// A plain node is what records make, worked out by patterns and loops of its own.
type plainNode struct {
	id, count, cut int
	objs           map[string]obj
	feed           []entry
}

var (
	objRecordForm = regexp.MustCompile(`\A(put|join) ([a-z]{1,6}) ([^ ]*)\z`)
	cutRecordForm = regexp.MustCompile(`\Acut ([1-9][0-9]{0,3})\z`)
)

func plainOf(id int, records []string) (*plainNode, bool) {
	p := &plainNode{id: id, objs: map[string]obj{}}
	for _, record := range records {
		if !p.follow(record) {
			return nil, false
		}
	}
	return p, true
}

func (p *plainNode) follow(record string) bool {
	if m := cutRecordForm.FindStringSubmatch(record); m != nil {
		n, _ := strconv.Atoi(m[1])
		if n <= p.cut || n > p.count {
			return false
		}
		p.feed = slices.Clone(p.feed[n-p.cut:])
		p.cut = n
		return true
	}
	m := objRecordForm.FindStringSubmatch(record)
	if m == nil || !objForm.MatchString(m[3]) || !impl.ObjOK(objIn(m[3])) {
		return false
	}
	return p.followObj(m[1] == "put", m[2], objIn(m[3]))
}

func (p *plainNode) followObj(put bool, key string, o obj) bool {
	had, found := p.objs[key]
	if !coversTold(o, had) || alike(o, had) || !found && len(p.objs) == impl.MaxKeys {
		return false
	}
	next := dot{Node: p.id, N: p.count + 1}
	if !put && o.Seen[p.id] > p.count || put && (o.Seen[p.id] > next.N || !hasDot(o.Sibs, next)) {
		return false
	}
	p.objs[key] = o
	if put {
		p.count++
		p.feed = append(p.feed, entry{Dot: next, Key: key})
	}
	return true
}

func hasDot(sibs []sibling, d dot) bool {
	return slices.ContainsFunc(sibs, func(s sibling) bool { return s.Dot == d })
}

// a covers b if it knows no less, and brings nothing back that b knows to be gone.
func coversTold(a, b obj) bool {
	for i, n := range b.Seen {
		if a.Seen[i] < n {
			return false
		}
	}
	for _, s := range a.Sibs {
		if s.Dot.N <= b.Seen[s.Dot.Node] && !hasDot(b.Sibs, s.Dot) {
			return false
		}
	}
	return true
}

// The first lines are sure, the others are not.
func (p *plainNode) node(records []string, sure int) node {
	x := node{Id: p.id, Count: p.count, Cut: p.cut, Feed: slices.Clone(p.feed)}
	for _, key := range slices.Sorted(maps.Keys(p.objs)) {
		x.Cells = append(x.Cells, cell{Key: key, Obj: p.objs[key]})
	}
	lines := sealedLines(records...)
	x.Disk = disk{Sure: slices.Clone(lines[:sure]), Unsure: slices.Clone(lines[sure:])}
	return copyOfNode(x)
}

// nodeTold is the node of records that follow.
func nodeTold(t *testing.T, id, sure int, records ...string) node {
	t.Helper()
	p, ok := plainOf(id, records)
	if !ok {
		t.Fatal("these records do not follow:", short(records))
	}
	return p.node(records, sure)
}

// sureTold has all its records sure.
func sureTold(t *testing.T, id int, records ...string) node {
	t.Helper()
	return nodeTold(t, id, len(records), records...)
}

// replayedAsItStands holds what records make against the plain node of them, or asks for ErrForm.
func replayedAsItStands(t *testing.T, id int, records ...string) {
	t.Helper()
	got, code := impl.ReplayNode(id, records)
	p, ok := plainOf(id, records)
	if !ok {
		if !isZeroNode(got) || code != impl.ErrForm {
			t.Fatal("ReplayNode", id, short(records), short(got), code, "but they do not follow")
		}
		return
	}
	if !alikeNodes(got, p.node(records, len(records))) || code != impl.OK || !impl.NodeOK(got) {
		t.Fatal("ReplayNode", id, short(records), short(got), code)
	}
}

// A row of keys that rise, each of two letters.
func keyNumber(i int) string { return string([]byte{'a' + byte(i/26), 'a' + byte(i%26)}) }

// puts has a put of node 0 for each number: key(n) tells its key, and each key has the last one alone.
func puts(from, to int, key func(n int) string) []string {
	var records []string
	for n := from; n <= to; n++ {
		records = append(records, fmt.Sprintf("put %s %d.0.0|a%d=%d", key(n), n, n, n%1000))
	}
	return records
}

func oneKey(n int) string { return "k" }

func eachItsKey(n int) string { return keyNumber(n - 1) }

// siblingsOf has puts of node 0 that knew nothing of each other: all of them stand beside.
func siblingsOf(key string, many int) []string {
	var records []string
	sibs := ""
	for n := 1; n <= many; n++ {
		sibs += fmt.Sprintf("|a%d=%d", n, n)
		records = append(records, fmt.Sprintf("put %s %d.0.0%s", key, n, sibs))
	}
	return records
}

var someRecords = []string{"put b 1.0.0|a1=5", "put a 2.0.0|a2=6", "join b 1.0.4|a1=5|c4!", "put b 3.0.4|a1=5|a3=7|c4!", "cut 1",
	"join zzzzzz 0.9.0", "put zzzzzz 4.9.0|a4!", "cut 3"}

func rightNodes(t *testing.T) []node {
	all := []node{
		sureTold(t, 0), sureTold(t, 2),
		{Id: 1, Cells: []cell{}, Feed: []entry{}, Disk: disk{Sure: []string{}, Unsure: []string{}}},
		sureTold(t, 1, "put b 0.1.0|b1=5"),
		nodeTold(t, 1, 0, "put b 0.1.0|b1=5", "put b 0.2.0|b2=6"),
		sureTold(t, 2, "join b 0.1.0|b1=5", "join b 9999.9999.0|a9999=0|b9999=999"),
	}
	for sure := range len(someRecords) + 1 {
		all = append(all, nodeTold(t, 0, sure, someRecords...))
	}
	keys := puts(1, impl.MaxKeys, eachItsKey)
	return append(all,
		nodeTold(t, 0, 5, keys...),
		nodeTold(t, 0, 99, siblingsOf("k", impl.MaxSibs)...),
		nodeTold(t, 0, impl.MaxRecords, puts(1, impl.MaxRecords, oneKey)...),
		nodeTold(t, 0, 0, puts(1, impl.MaxRecords, oneKey)...),
		nodeTold(t, 0, 200, append(keys, puts(impl.MaxKeys+1, impl.MaxRecords, func(n int) string { return keyNumber(n % impl.MaxKeys) })...)...))
}

func wrongNodes(t *testing.T) []node {
	all := wrongNumbersOfNodes(t)
	all = append(all, wrongListsOfNodes(t)...)
	all = append(all, wrongObjsOfNodes(t)...)
	return append(all, wrongDisksOfNodes(t)...)
}

// changed has one copy for each change of a node that was right.
func changed(x node, changes ...func(x *node)) []node {
	var all []node
	for _, change := range changes {
		y := copyOfNode(x)
		change(&y)
		all = append(all, y)
	}
	return all
}

func wrongNumbersOfNodes(t *testing.T) []node {
	all := []node{{Id: -1}, {Id: 3}, {Id: math.MinInt}, {Id: math.MaxInt}, {Id: 1 << 32}, {Count: 1}, {Cut: 1}, {Count: 1, Cut: 1},
		{Count: impl.MaxDot}, {Count: impl.MaxDot + 1}}
	some := nodeTold(t, 0, 6, someRecords...)
	for _, n := range []int{-1, 1, 2, math.MinInt, 1 << 32, impl.MaxDot} {
		all = append(all, changed(some,
			func(x *node) { x.Id += n },
			func(x *node) { x.Count += n },
			func(x *node) { x.Cut += n },
			func(x *node) { x.Count += n; x.Cut += n })...)
	}
	return all
}

func wrongListsOfNodes(t *testing.T) []node {
	some := nodeTold(t, 0, 4, someRecords[:4]...)
	all := changed(some,
		func(x *node) { x.Cells = nil },
		func(x *node) { x.Cells = x.Cells[:1] },
		func(x *node) { x.Cells = x.Cells[1:] },
		func(x *node) { slices.Reverse(x.Cells) },
		func(x *node) { x.Cells = append(x.Cells, cell{Key: "c"}) },
		func(x *node) { x.Cells = append(x.Cells, x.Cells[1]) },
		func(x *node) { x.Cells = append(x.Cells[:1:1], x.Cells...) },
		func(x *node) { x.Cells[0].Key = "c" },
		func(x *node) { x.Cells[0].Key = "" },
		func(x *node) { x.Cells[0].Key = "A" },
		func(x *node) { x.Cells[0].Key, x.Cells[1].Key = "b", "a" },
		func(x *node) { x.Feed = nil },
		func(x *node) { x.Feed = x.Feed[1:] },
		func(x *node) { x.Feed = x.Feed[:2] },
		func(x *node) { slices.Reverse(x.Feed) },
		func(x *node) { x.Feed[0], x.Feed[1] = x.Feed[1], x.Feed[0] },
		func(x *node) { x.Feed = append(x.Feed, x.Feed[2]) },
		func(x *node) { x.Feed = append(x.Feed, entry{}) },
		func(x *node) { x.Feed = append(x.Feed, entry{Dot: dot{Node: 0, N: 4}, Key: "b"}) },
		func(x *node) { x.Feed[0].Key = "a" },
		func(x *node) { x.Feed[0].Key = "" },
		func(x *node) { x.Feed[0].Dot.N = 2 },
		func(x *node) { x.Feed[0].Dot.Node = 1 },
		func(x *node) { x.Cells = make([]cell, 5000) },
		func(x *node) { x.Feed = make([]entry, 5000) })
	cut := nodeTold(t, 0, 8, someRecords...)
	return append(all, changed(cut,
		func(x *node) { x.Feed = nil },
		func(x *node) { x.Feed = append([]entry{{Dot: dot{Node: 0, N: 3}, Key: "b"}}, x.Feed...) })...)
}

func wrongObjsOfNodes(t *testing.T) []node {
	some := nodeTold(t, 0, 4, someRecords[:4]...)
	return changed(some,
		func(x *node) { x.Cells[1].Obj = obj{} },
		func(x *node) { x.Cells[1].Obj.Seen[0]++ },
		func(x *node) { x.Cells[1].Obj.Seen[0]-- },
		func(x *node) { x.Cells[1].Obj.Seen[2] = -1 },
		func(x *node) { x.Cells[1].Obj.Seen[2] = impl.MaxDot + 1 },
		func(x *node) { x.Cells[1].Obj.Sibs = nil },
		func(x *node) { x.Cells[1].Obj.Sibs = x.Cells[1].Obj.Sibs[1:] },
		func(x *node) { x.Cells[1].Obj.Sibs = x.Cells[1].Obj.Sibs[:2] },
		func(x *node) { slices.Reverse(x.Cells[1].Obj.Sibs) },
		func(x *node) { x.Cells[1].Obj.Sibs[0].Value++ },
		func(x *node) { x.Cells[1].Obj.Sibs[0] = tomb(0, 1) },
		func(x *node) { x.Cells[1].Obj.Sibs[2].Dead = false },
		func(x *node) { x.Cells[1].Obj.Sibs[0].Dot.N++ },
		func(x *node) { x.Cells[1].Obj.Sibs = append(x.Cells[1].Obj.Sibs, live(2, 4, 1)) },
		func(x *node) { x.Cells[0].Obj = x.Cells[1].Obj })
}

func wrongDisksOfNodes(t *testing.T) []node {
	some := nodeTold(t, 0, 2, someRecords[:4]...)
	all := changed(some,
		func(x *node) { x.Disk = disk{} },
		func(x *node) { x.Disk.Sure = nil },
		func(x *node) { x.Disk.Unsure = nil },
		func(x *node) { x.Disk.Sure = x.Disk.Sure[1:] },
		func(x *node) { x.Disk.Unsure = x.Disk.Unsure[:1] },
		func(x *node) { slices.Reverse(x.Disk.Sure) },
		func(x *node) { slices.Reverse(x.Disk.Unsure) },
		func(x *node) { x.Disk.Sure, x.Disk.Unsure = x.Disk.Unsure, x.Disk.Sure },
		func(x *node) { x.Disk.Sure = append(x.Disk.Sure, x.Disk.Sure[1]) },
		func(x *node) { x.Disk.Unsure = append(x.Disk.Unsure, sealTold("cut 1")) },
		func(x *node) { x.Disk.Unsure[1] = sealTold("put b 3.0.4|a1=5|a3=8|c4!") },
		func(x *node) { x.Disk.Unsure[1] = sealTold("put a 3.0.4|a2=6|a3=7") },
		func(x *node) { x.Disk.Unsure[1] = sealTold("none") },
		func(x *node) { x.Disk = wrongDisks()[0] },
		func(x *node) { x.Disk = wrongDisks()[1] })
	for _, none := range append(noSealedLines(), "put a 2.0.0|a2=6") {
		all = append(all, changed(some,
			func(x *node) { x.Disk.Sure = append(x.Disk.Sure, none) },
			func(x *node) { x.Disk.Unsure = append(x.Disk.Unsure, none) },
			func(x *node) { x.Disk.Sure[0] = none },
			func(x *node) { x.Disk.Unsure = append([]string{none}, x.Disk.Unsure...) })...)
	}
	// a line too many, whichever of the lists it is in
	full := nodeTold(t, 0, 150, puts(1, impl.MaxRecords, oneKey)...)
	more := nodeTold(t, 0, 150, puts(1, impl.MaxRecords+1, oneKey)...)
	return append(all, append(changed(full,
		func(x *node) { x.Disk.Sure = append(x.Disk.Sure, "") },
		func(x *node) { x.Disk.Unsure = append(x.Disk.Unsure, sealTold("cut 1")) }),
		more, nodeTold(t, 0, 0, puts(1, impl.MaxRecords+1, oneKey)...), nodeTold(t, 0, 301, puts(1, impl.MaxRecords+1, oneKey)...))...)
}

func TestNodeConstants(t *testing.T) {
	if impl.MaxKeys != 100 {
		t.Error("MaxKeys", impl.MaxKeys)
	}
}

func TestNewNodes(t *testing.T) {
	for id := range impl.Nodes {
		got, code := impl.NewNode(id)
		if !alikeNodes(got, node{Id: id}) || code != impl.OK || !impl.NodeOK(got) {
			t.Error("NewNode", id, got, code)
		}
	}
	for _, id := range []int{math.MinInt, -1, impl.Nodes, impl.Nodes + 1, 1 << 32, math.MaxInt} {
		if got, code := impl.NewNode(id); !isZeroNode(got) || code != impl.ErrRange {
			t.Error("NewNode", id, got, code)
		}
	}
}

func TestNodesRightAndWrong(t *testing.T) {
	for i, x := range rightNodes(t) {
		if !impl.NodeOK(x) {
			t.Error("NodeOK of right node", i, short(x))
		}
	}
	for i, x := range wrongNodes(t) {
		if impl.NodeOK(x) {
			t.Error("NodeOK of wrong node", i, short(x))
		}
	}
}

var (
	rightKeys = []string{"a", "z", "ab", "abcdef", "zzzzzz", "put", "cut", "join"}
	wrongKeys = []string{"", "sevenaa", "abcdefg", "A", "Z", "aB", "a1", "1", "_", "a_", "`", "{", "a`", "{a", "a b", " ", " a", "a ", "a\n", "\x00", "a\x00",
		"\xff", "a\xff", "\u00e4", "\u0430", "a.", "-", strings.Repeat("a", 40), strings.Repeat("a", impl.MaxText)}
	longKeys = []string{strings.Repeat("a", impl.MaxText+1), strings.Repeat("\xff", 2*impl.MaxText)}
)

func TestObjAt(t *testing.T) {
	some := nodeTold(t, 0, 4, someRecords...)
	for _, c := range []struct {
		key  string
		want obj
	}{
		{"a", object(vv{2}, live(0, 2, 6))},
		{"b", object(vv{3, 0, 4}, live(0, 1, 5), live(0, 3, 7), tomb(2, 4))},
		{"zzzzzz", object(vv{4, 9}, tomb(0, 4))},
		{"c", obj{}}, {"aa", obj{}}, {"zzzzz", obj{}}, {"put", obj{}},
	} {
		if got, code := impl.ObjAt(some, c.key); !alike(got, c.want) || code != impl.OK {
			t.Error("ObjAt", c.key, got, code)
		}
	}
	for _, key := range rightKeys {
		if got, code := impl.ObjAt(node{Id: 2}, key); !isZero(got) || code != impl.OK {
			t.Error("ObjAt of a new node", key, got, code)
		}
	}
}

func TestKeysOf(t *testing.T) {
	for i, x := range rightNodes(t) {
		var want []string
		for _, c := range x.Cells {
			want = append(want, c.Key)
		}
		slices.Sort(want)
		if got, code := impl.KeysOf(x); !slices.Equal(got, want) || code != impl.OK {
			t.Error("KeysOf", i, got, code)
		}
	}
	// a key that is the beginning of another comes ahead of it
	x := sureTold(t, 0, puts(1, 5, func(n int) string { return []string{"", "b", "ab", "a", "z", "aaa"}[n] })...)
	if got, code := impl.KeysOf(x); !slices.Equal(got, []string{"a", "aaa", "ab", "b", "z"}) || code != impl.OK {
		t.Error("KeysOf", got, code)
	}
}

// putAsTold holds a put against the node that the told record makes.
func putAsTold(t *testing.T, x node, key string, ctx vv, value int, dead bool, record string) node {
	t.Helper()
	got, d, code := impl.PutNode(x, key, ctx, value, dead)
	if code != impl.OK || d != (dot{Node: x.Id, N: x.Count + 1}) || !alikeNodes(got, withRecord(t, x, record)) || !impl.NodeOK(got) {
		t.Fatal("PutNode", short(x), key, ctx, value, dead, short(got), d, code, "not with", record)
	}
	return got
}

func withRecord(t *testing.T, x node, record string) node {
	t.Helper()
	return nodeTold(t, x.Id, len(x.Disk.Sure), append(recordsIn(x), record)...)
}

// recordsIn tells what stands behind the numbers of each line.
func recordsIn(x node) []string {
	var records []string
	for _, line := range slices.Concat(x.Disk.Sure, x.Disk.Unsure) {
		records = append(records, strings.SplitN(line, ":", 3)[2])
	}
	return records
}

func TestPutNode(t *testing.T) {
	x := node{Id: 1}
	for _, c := range []struct {
		key    string
		ctx    vv
		value  int
		dead   bool
		record string
	}{
		{"b", vv{}, 5, false, "put b 0.1.0|b1=5"},
		{"a", vv{}, 0, false, "put a 0.2.0|b2=0"},
		{"b", vv{}, impl.MaxValue, false, "put b 0.3.0|b1=5|b3=999"},
		{"b", vv{0, 1}, 0, true, "put b 0.4.0|b3=999|b4!"},
		{"b", vv{0, 4}, 6, false, "put b 0.5.0|b5=6"},
		{"b", vv{9, 0, 3}, 7, false, "put b 9.6.3|b5=6|b6=7"},
		{"b", vv{2, 6, 4}, 8, false, "put b 9.7.4|b7=8"},
		{"zzzzzz", vv{impl.MaxDot, 7, impl.MaxDot}, 0, true, "put zzzzzz 9999.8.9999|b8!"},
		{"join", vv{0, 8}, 1, false, "put join 0.9.0|b9=1"},
	} {
		x = putAsTold(t, x, c.key, c.ctx, c.value, c.dead, c.record)
	}
	for id := range impl.Nodes {
		for _, key := range rightKeys {
			var seen vv
			seen[id] = 1
			record := "put " + key + " " + vvTold(seen) + "|" + dotTold(dot{Node: id, N: 1}) + "=7"
			putAsTold(t, node{Id: id}, key, vv{}, 7, false, record)
		}
	}
}

// What is not sure stays so, and a put behind it is not sure either.
func TestPutOntoWhatIsNotSure(t *testing.T) {
	for sure := range 9 {
		x := nodeTold(t, 0, sure, someRecords...)
		putAsTold(t, x, "b", vv{3, 0, 4}, 9, false, "put b 5.0.4|a5=9")
		putAsTold(t, x, "new", vv{}, 9, false, "put new 5.0.0|a5=9")
	}
}

// Beside ErrRange all is zero, and it comes ahead of the codes that answer the node as it was.
func TestPutOfWhatIsOutOfRange(t *testing.T) {
	full := nodeTold(t, 0, 150, puts(1, impl.MaxRecords, oneKey)...)
	for _, x := range []node{{Id: 0}, nodeTold(t, 0, 3, someRecords...), full} {
		for _, ctx := range wrongVvs() {
			putRefused(t, x, "b", ctx, 5, false, node{}, impl.ErrRange)
			putRefused(t, x, "b", ctx, -5, true, node{}, impl.ErrRange)
		}
		for _, ctx := range []vv{{}, {x.Count}, {impl.MaxDot, impl.MaxDot, impl.MaxDot}} {
			for _, value := range []int{-1, impl.MaxValue + 1, 1 << 32, math.MinInt, math.MaxInt} {
				putRefused(t, x, "b", ctx, value, false, node{}, impl.ErrRange)
				putRefused(t, x, "b", ctx, value, true, node{}, impl.ErrRange)
			}
			for _, value := range []int{1, 5, impl.MaxValue} {
				putRefused(t, x, "b", ctx, value, true, node{}, impl.ErrRange)
			}
		}
	}
}

func putRefused(t *testing.T, x node, key string, ctx vv, value int, dead bool, want node, wantCode int) {
	t.Helper()
	if got, d, code := impl.PutNode(x, key, ctx, value, dead); !alikeNodes(got, want) || d != (dot{}) || code != wantCode {
		t.Fatal("PutNode", short(x), short(key), ctx, value, dead, short(got), d, code, "not", wantCode)
	}
}

// Nodes without room: of lines, of keys, of siblings of key "aa", and of more than one of these.
type crowded struct {
	lines, keys, sibs, linesAndKeys, all node
}

func crowdedNodes(t *testing.T) crowded {
	t.Helper()
	keys := puts(1, impl.MaxKeys, eachItsKey)
	sibs := siblingsOf("aa", impl.MaxSibs)
	others := puts(101, 199, func(n int) string { return keyNumber(n - 100) })
	return crowded{
		lines:        nodeTold(t, 0, 150, puts(1, impl.MaxRecords, oneKey)...),
		keys:         nodeTold(t, 0, 7, keys...),
		sibs:         nodeTold(t, 0, 7, sibs...),
		linesAndKeys: nodeTold(t, 0, 300, append(keys, puts(101, 300, func(n int) string { return "aa" })...)...),
		all:          nodeTold(t, 0, 0, slices.Concat(sibs, others, puts(200, 300, func(n int) string { return "ab" }))...),
	}
}

// Beside ErrOrder, ErrFull and ErrMany the node is as it was.
func TestPutWithoutRoom(t *testing.T) {
	c := crowdedNodes(t)
	knowsNext := func(x node) vv { return vv{x.Count + 1} }
	for i, p := range []struct {
		x    node
		key  string
		ctx  vv
		code int
	}{
		{c.lines, "k", vv{}, impl.ErrFull},
		{c.lines, "k", vv{300}, impl.ErrFull},
		{c.lines, "new", vv{}, impl.ErrFull},
		{c.keys, "new", vv{}, impl.ErrMany},
		{c.keys, "a", vv{}, impl.ErrMany},
		{c.sibs, "aa", vv{}, impl.ErrMany},
		{c.sibs, "aa", vv{50}, impl.ErrMany}, // a write has no room beside MaxSibs, even if it knows some, or all
		{c.sibs, "aa", vv{100}, impl.ErrMany},
		{c.linesAndKeys, "new", vv{}, impl.ErrFull},
		{c.all, "aa", vv{}, impl.ErrFull},
		{c.all, "zz", vv{}, impl.ErrFull},
		// what the context knows is asked ahead of the room
		{c.lines, "k", knowsNext(c.lines), impl.ErrOrder},
		{c.keys, "new", knowsNext(c.keys), impl.ErrOrder},
		{c.sibs, "aa", knowsNext(c.sibs), impl.ErrOrder},
		{c.all, "aa", vv{impl.MaxDot, impl.MaxDot, impl.MaxDot}, impl.ErrOrder},
		{node{Id: 0}, "k", vv{1}, impl.ErrOrder},
		{node{Id: 1}, "k", vv{0, 1}, impl.ErrOrder},
		{node{Id: 2}, "k", vv{0, 0, impl.MaxDot}, impl.ErrOrder},
	} {
		for _, dead := range []bool{false, true} {
			if got, d, code := impl.PutNode(p.x, p.key, p.ctx, 0, dead); !alikeNodes(got, p.x) || d != (dot{}) || code != p.code {
				t.Error("PutNode", i, short(got), d, code, "not", p.code)
			}
		}
	}
}

func TestPutIntoTheLastRoom(t *testing.T) {
	c := crowdedNodes(t)
	putAsTold(t, c.keys, "aa", vv{}, 5, false, "put aa 101.0.0|a1=1|a101=5")
	putAsTold(t, c.sibs, "ab", vv{}, 5, false, "put ab 101.0.0|a101=5")
	x := nodeTold(t, 0, 9, puts(1, impl.MaxRecords-1, oneKey)...)
	putAsTold(t, x, "new", vv{}, 5, false, "put new 300.0.0|a300=5")
	x = nodeTold(t, 0, 9, puts(1, impl.MaxKeys-1, eachItsKey)...)
	putAsTold(t, x, "new", vv{}, 5, false, "put new 100.0.0|a100=5")
	records := siblingsOf("k", impl.MaxSibs)
	x = nodeTold(t, 0, 9, records[:impl.MaxSibs-1]...)
	putAsTold(t, x, "k", vv{}, 100, false, records[impl.MaxSibs-1])
}

// joinAsTold holds a join against the node that the told record makes, or the node as it was without one.
func joinAsTold(t *testing.T, x node, key string, o obj, record string) node {
	t.Helper()
	want := x
	if record != "" {
		want = withRecord(t, x, record)
	}
	got, brought, code := impl.JoinNode(x, key, o)
	if code != impl.OK || brought != (record != "") || !alikeNodes(got, want) || !impl.NodeOK(got) {
		t.Fatal("JoinNode", short(x), key, o, short(got), brought, code, "not with", record)
	}
	return got
}

func TestJoinNode(t *testing.T) {
	x := nodeTold(t, 1, 2, "put b 0.1.0|b1=5", "put a 0.2.0|b2=6", "put b 0.3.0|b1=5|b3=7")
	for _, c := range []struct {
		key    string
		o      obj
		record string
	}{
		{"b", obj{}, ""},
		{"new", obj{}, ""},
		{"b", object(vv{0, 1}, live(1, 1, 5)), ""},
		{"b", object(vv{0, 3}, live(1, 1, 5), live(1, 3, 7)), ""},
		{"b", object(vv{2}, live(0, 2, 9)), "join b 2.3.0|a2=9|b1=5|b3=7"},
		{"b", object(vv{2}, live(0, 2, 9)), ""},
		{"b", object(vv{2}, tomb(0, 2)), ""}, // what both have stays as it was
		{"b", object(vv{0, 2}), "join b 2.3.0|a2=9|b3=7"},
		{"b", object(vv{1, 2}, live(0, 1, 9)), ""},
		{"b", object(vv{1, 3, 1}, live(2, 1, 1)), "join b 2.3.1|a2=9|c1=1"},
		{"b", object(vv{2, 3, 1}), "join b 2.3.1"},
		{"b", object(vv{2, 3, 1}, live(0, 2, 9)), ""},
		{"new", object(vv{impl.MaxDot, 3, impl.MaxDot}, tomb(0, impl.MaxDot)), "join new 9999.3.9999|a9999!"},
		{"cut", object(vv{0, 0, 1}), "join cut 0.0.1"},
	} {
		x = joinAsTold(t, x, c.key, c.o, c.record)
	}
	if x.Count != 3 || len(x.Feed) != 3 {
		t.Error("joins have no events of the node", x.Count, x.Feed)
	}
}

func TestJoinOfLaterEvents(t *testing.T) {
	for id := range impl.Nodes {
		for _, x := range []node{{Id: id}, sureTold(t, id, "join k "+vvWithout(id))} {
			for _, n := range []int{1, 2, impl.MaxDot} {
				var o obj
				o.Seen[id] = n
				joinRefused(t, x, "k", o, x, impl.ErrOrder)
				o.Sibs = []sibling{live(id, 1, 5)}
				joinRefused(t, x, "new", o, x, impl.ErrOrder)
			}
		}
	}
	some := nodeTold(t, 0, 5, someRecords...)
	joinAsTold(t, some, "new", object(vv{4}, live(0, 4, 1)), "join new 4.0.0|a4=1")
	joinRefused(t, some, "new", object(vv{5}, live(0, 4, 1)), some, impl.ErrOrder)
	joinRefused(t, some, "b", object(vv{impl.MaxDot}), some, impl.ErrOrder)
}

// vvWithout knows much of the other nodes.
func vvWithout(id int) string {
	v := vv{9, 9, 9}
	v[id] = 0
	return vvTold(v)
}

func joinRefused(t *testing.T, x node, key string, o obj, want node, wantCode int) {
	t.Helper()
	if got, brought, code := impl.JoinNode(x, key, o); !alikeNodes(got, want) || brought || code != wantCode {
		t.Fatal("JoinNode", short(x), short(key), short(o), short(got), brought, code, "not", wantCode)
	}
}

func TestJoinWithoutRoom(t *testing.T) {
	c := crowdedNodes(t)
	some := object(vv{0, 1}, live(1, 1, 1))
	for i, p := range []struct {
		x    node
		key  string
		o    obj
		code int
	}{
		{c.lines, "k", some, impl.ErrFull},
		{c.lines, "k", object(vv{300}), impl.ErrFull},
		{c.lines, "new", some, impl.ErrFull},
		{c.keys, "new", some, impl.ErrMany},
		{c.keys, "a", object(vv{1}), impl.ErrMany},
		{c.sibs, "aa", some, impl.ErrMany},
		{c.sibs, "aa", object(vv{0, 100}, run(1, 1, 100)...), impl.ErrMany},
		{c.sibs, "aa", object(vv{1, 2}, live(1, 1, 1), live(1, 2, 2)), impl.ErrMany},
		{c.linesAndKeys, "new", some, impl.ErrFull},
		{c.all, "aa", some, impl.ErrFull},
		{c.all, "zz", object(vv{0, 100}, run(1, 1, 100)...), impl.ErrFull},
		{c.lines, "k", object(vv{301}), impl.ErrOrder},
		{c.keys, "new", object(vv{101}, live(0, 101, 1)), impl.ErrOrder},
		{c.sibs, "aa", object(vv{101, 1}, live(1, 1, 1)), impl.ErrOrder},
		{c.all, "aa", object(vv{301}), impl.ErrOrder},
	} {
		if got, brought, code := impl.JoinNode(p.x, p.key, p.o); !alikeNodes(got, p.x) || brought || code != p.code {
			t.Error("JoinNode", i, short(got), brought, code, "not", p.code)
		}
	}
}

func TestJoinIntoTheLastRoom(t *testing.T) {
	c := crowdedNodes(t)
	joinAsTold(t, c.keys, "aa", object(vv{0, 1}, live(1, 1, 5)), "join aa 1.1.0|a1=1|b1=5")
	joinAsTold(t, c.sibs, "new", object(vv{0, 1}, live(1, 1, 5)), "join new 0.1.0|b1=5")
	full := object(vv{0, 0, 100}, run(2, 1, 100)...)
	joinAsTold(t, c.sibs, "new", full, "join new "+objTold(full))
	// one that is known to be gone makes room for one
	left := object(vv{100, 1}, append(run(0, 2, 100), live(1, 1, 7))...)
	joinAsTold(t, c.sibs, "aa", object(vv{1, 1}, live(1, 1, 7)), "join aa "+objTold(left))
	joinAsTold(t, c.sibs, "aa", object(vv{100, 3}), "join aa 100.3.0")
	x := nodeTold(t, 0, 9, puts(1, impl.MaxRecords-1, oneKey)...)
	joinAsTold(t, x, "new", object(vv{0, 1}), "join new 0.1.0")
	x = nodeTold(t, 0, 9, puts(1, impl.MaxKeys-1, eachItsKey)...)
	joinAsTold(t, x, "new", object(vv{0, 1}), "join new 0.1.0")
}

// What brings nothing new needs no room.
func TestJoinOfNothingNewWithoutRoom(t *testing.T) {
	c := crowdedNodes(t)
	for _, x := range []node{c.lines, c.keys, c.sibs, c.linesAndKeys, c.all} {
		for _, has := range x.Cells {
			joinAsTold(t, x, has.Key, obj{}, "")
		}
		last := x.Cells[len(x.Cells)-1]
		joinAsTold(t, x, last.Key, last.Obj, "")
		joinAsTold(t, x, "new", obj{}, "")
		joinAsTold(t, x, x.Cells[0].Key, x.Cells[0].Obj, "")
	}
}

// An object that is not right is ErrBad, behind ErrKey, and ahead of the codes that answer the node as it was.
func TestJoinOfWrongObjs(t *testing.T) {
	c := crowdedNodes(t)
	for _, o := range wrongObjs() {
		for _, x := range []node{{Id: 0}, {Id: 2}, c.lines} {
			joinRefused(t, x, "k", o, node{}, impl.ErrBad)
			joinRefused(t, x, "K", o, node{}, impl.ErrKey)
		}
	}
}

func TestSyncNode(t *testing.T) {
	for i, x := range rightNodes(t) {
		want := copyOfNode(x)
		want.Disk = disk{Sure: slices.Concat(x.Disk.Sure, x.Disk.Unsure)}
		got, code := impl.SyncNode(x)
		if !alikeNodes(got, want) || code != impl.OK || !impl.NodeOK(got) {
			t.Error("SyncNode of right node", i, short(got), code)
		}
		if again, code := impl.SyncNode(got); !alikeNodes(again, want) || code != impl.OK {
			t.Error("SyncNode twice of right node", i, short(again), code)
		}
	}
}

func TestCrashNodeOutOfRange(t *testing.T) {
	for _, x := range []node{{Id: 1}, nodeTold(t, 0, 3, someRecords...), nodeTold(t, 0, 8, someRecords...)} {
		for _, n := range [][2]int{{-1, 0}, {0, -1}, {-1, -1}, {impl.MaxRecords + 1, 0}, {0, impl.MaxText + 1}, {math.MinInt, 0}, {0, math.MinInt},
			{math.MaxInt, 0}, {0, math.MaxInt}, {math.MaxInt, math.MaxInt}, {1 << 32, 0}, {0, 1 << 32}, {8, impl.MaxText + 1}} {
			if got, code := impl.CrashNode(x, n[0], n[1]); !isZeroNode(got) || code != impl.ErrRange {
				t.Error("CrashNode", short(x), n, short(got), code)
			}
		}
		all := sureTold(t, x.Id, recordsIn(x)...)
		for _, n := range [][2]int{{impl.MaxRecords, 0}, {impl.MaxRecords, impl.MaxText}, {8, 0}, {7, impl.MaxText}} {
			if got, code := impl.CrashNode(x, n[0], n[1]); !alikeNodes(got, all) || code != impl.OK {
				t.Error("CrashNode", short(x), n, short(got), code)
			}
		}
	}
}

func TestReplayNode(t *testing.T) {
	for id := range impl.Nodes {
		replayedAsItStands(t, id)
		replayedAsItStands(t, id, someRecords...)
	}
	for i, x := range rightNodes(t) {
		records := recordsIn(x)
		want := sureTold(t, x.Id, records...)
		if got, code := impl.ReplayNode(x.Id, records); !alikeNodes(got, want) || code != impl.OK || !impl.NodeOK(got) {
			t.Error("ReplayNode of right node", i, short(got), code)
		}
	}
}

// ErrLong comes ahead of ErrRange, ErrRange ahead of ErrForm.
func TestReplayOutOfBounds(t *testing.T) {
	for _, c := range []struct {
		id, records int
		code        int
	}{
		{0, impl.MaxRecords, impl.OK}, {0, impl.MaxRecords + 1, impl.ErrRange}, {0, impl.MaxList, impl.ErrRange}, {0, impl.MaxList + 1, impl.ErrLong},
		{2, impl.MaxRecords, impl.ErrForm}, {2, impl.MaxRecords + 1, impl.ErrRange}, {2, impl.MaxList + 1, impl.ErrLong},
		{-1, 0, impl.ErrRange}, {3, 0, impl.ErrRange}, {math.MinInt, 0, impl.ErrRange}, {math.MaxInt, 5, impl.ErrRange}, {1 << 32, 5, impl.ErrRange},
		{-1, impl.MaxRecords + 1, impl.ErrRange}, {-1, impl.MaxList, impl.ErrRange}, {-1, impl.MaxList + 1, impl.ErrLong}, {3, 2 * impl.MaxList, impl.ErrLong},
	} {
		got, code := impl.ReplayNode(c.id, puts(1, c.records, oneKey))
		if code != c.code || code == impl.OK && len(got.Disk.Sure) != c.records || code != impl.OK && !isZeroNode(got) {
			t.Error("ReplayNode", c, short(got), code)
		}
		none := make([]string, c.records)
		if c.records > 0 && c.code == impl.OK {
			c.code = impl.ErrForm
		}
		if got, code := impl.ReplayNode(c.id, none); !isZeroNode(got) || code != c.code {
			t.Error("ReplayNode of empty records", c, short(got), code)
		}
	}
}

// In these calls ErrBad, then ErrKey; ErrLong of a key ahead of both. Beside them all is zero.
func TestCallsOnWrongNodes(t *testing.T) {
	for i, x := range wrongNodes(t) {
		wrongCallsWithKey(t, x, "a", impl.ErrBad)
		wrongCallsWithKey(t, x, "A", impl.ErrBad)
		if i < 20 {
			wrongCallsWithKey(t, x, longKeys[0], impl.ErrLong)
		}
		if got, code := impl.SyncNode(x); !isZeroNode(got) || code != impl.ErrBad {
			t.Fatal("SyncNode of wrong node", i, short(got), code)
		}
		for _, n := range []int{-1, 0, 1, math.MaxInt} {
			if got, code := impl.CrashNode(x, n, n); !isZeroNode(got) || code != impl.ErrBad {
				t.Fatal("CrashNode of wrong node", i, short(got), code)
			}
		}
		if got, code := impl.KeysOf(x); len(got) != 0 || code != impl.ErrBad {
			t.Fatal("KeysOf wrong node", i, short(got), code)
		}
	}
}

func TestCallsWithWrongKeys(t *testing.T) {
	for _, x := range []node{{Id: 1}, nodeTold(t, 0, 3, someRecords...), crowdedNodes(t).all} {
		for _, key := range wrongKeys {
			wrongCallsWithKey(t, x, key, impl.ErrKey)
		}
		for _, key := range longKeys {
			wrongCallsWithKey(t, x, key, impl.ErrLong)
		}
	}
}

func wrongCallsWithKey(t *testing.T, x node, key string, want int) {
	t.Helper()
	if got, code := impl.ObjAt(x, key); !isZero(got) || code != want {
		t.Fatal("ObjAt", short(x), short(key), short(got), code, "not", want)
	}
	putRefused(t, x, key, vv{}, 5, false, node{}, want)
	putRefused(t, x, key, vv{-1}, -1, true, node{}, want)
	putRefused(t, x, key, vv{impl.MaxDot, impl.MaxDot, impl.MaxDot}, 5, false, node{}, want)
	joinRefused(t, x, key, obj{}, node{}, want)
	joinRefused(t, x, key, object(vv{impl.MaxDot, impl.MaxDot, impl.MaxDot}), node{}, want)
	joinRefused(t, x, key, object(vv{-1}), node{}, want)
}
