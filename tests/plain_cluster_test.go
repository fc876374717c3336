package tests

import (
	"fmt"
	"regexp"
	"slices"
	"testing"

	"loop.example/g00535/impl"
)

type (
	msg     = impl.Msg
	cluster = impl.Cluster
)

func alikeMsgs(a, b []msg) bool {
	return slices.EqualFunc(a, b, func(x, y msg) bool {
		return x.From == y.From && x.To == y.To && x.Key == y.Key && alike(x.Obj, y.Obj)
	})
}

// Empty lists and nil are the same.
func alikeClusters(a, b cluster) bool {
	return slices.EqualFunc(a.Nodes, b.Nodes, alikeNodes) && slices.Equal(a.Up, b.Up) && alikeMsgs(a.Net, b.Net) && alikeMsgs(a.Hints, b.Hints)
}

func isZeroCluster(c cluster) bool { return alikeClusters(c, cluster{}) }

func copyOfMsgs(list []msg) []msg {
	list = slices.Clone(list)
	for i, m := range list {
		list[i].Obj.Sibs = slices.Clone(m.Obj.Sibs)
	}
	return list
}

func copyOfCluster(c cluster) cluster {
	c.Nodes = slices.Clone(c.Nodes)
	for i, x := range c.Nodes {
		c.Nodes[i] = copyOfNode(x)
	}
	c.Up, c.Net, c.Hints = slices.Clone(c.Up), copyOfMsgs(c.Net), copyOfMsgs(c.Hints)
	return c
}

// A plain cluster has plain nodes, all of whose records are sure. What is done to one makes another; nothing that it
// holds is written into.
type plainCluster struct {
	nodes      [impl.Nodes]*plainNode
	records    [impl.Nodes][]string
	up         [impl.Nodes]bool
	net, hints []msg
}

func plainClusterOf(t *testing.T, records [impl.Nodes][]string) plainCluster {
	t.Helper()
	p := plainCluster{up: [impl.Nodes]bool{true, true, true}}
	for id, list := range records {
		p = p.with(t, id, list)
	}
	return p
}

// with has other records at one node.
func (p plainCluster) with(t *testing.T, id int, records []string) plainCluster {
	t.Helper()
	x, ok := plainOf(id, records)
	if !ok {
		t.Fatal("these records do not follow:", id, short(records))
	}
	p.nodes[id], p.records[id] = x, records
	return p
}

func (p plainCluster) noted(t *testing.T, id int, record string) plainCluster {
	t.Helper()
	return p.with(t, id, append(slices.Clone(p.records[id]), record))
}

func (p plainCluster) cluster() cluster {
	c := cluster{Up: slices.Clone(p.up[:]), Net: copyOfMsgs(p.net), Hints: copyOfMsgs(p.hints)}
	for id, x := range p.nodes {
		c.Nodes = append(c.Nodes, x.node(p.records[id], len(p.records[id])))
	}
	return c
}

// A message, or a hint, told by its object's text.
func sent(from, to int, key, text string) msg {
	return msg{From: from, To: to, Key: key, Obj: objIn(text)}
}

// The owners of a key, then its fallback.
func ownersTold(key string) [3]int { return preferenceTold(placeTold(key)) }

func otherOwnerTold(node int, key string) int {
	owners := ownersTold(key)
	return owners[0] + owners[1] - node
}

// What must come of a call: no plain cluster if the answer's is zero.
type wanted struct {
	plain *plainCluster
	dot   dot
	obj   obj
	count int
	yes   bool
	code  int
}

func zeroAnd(code int) wanted { return wanted{code: code} }

func (p plainCluster) and(code int) wanted { return wanted{plain: &p, code: code} }

var keyForm = regexp.MustCompile(`\A[a-z]{1,6}\z`)

func isNodeTold(id int) bool { return id == 0 || id == 1 || id == 2 }

func inBounds(n, most int) bool { return n >= 0 && n <= most }

// shapeTold tells what is wrong with a node, a key and numbers that were handed in, whatever the cluster is like.
func shapeTold(node int, key string, inRange bool) int {
	switch {
	case len(key) > impl.MaxText:
		return impl.ErrLong
	case !isNodeTold(node):
		return impl.ErrRange
	case !keyForm.MatchString(key):
		return impl.ErrKey
	case !inRange:
		return impl.ErrRange
	}
	return impl.OK
}

// roomTold tells why one more line, by which the key has so many siblings, has no room.
func (p plainCluster) roomTold(node int, key string, sibs int) int {
	objs := p.nodes[node].objs
	_, found := objs[key]
	switch {
	case len(p.records[node]) == 300:
		return impl.ErrFull
	case !found && len(objs) == 100, sibs > 100:
		return impl.ErrMany
	}
	return impl.OK
}

func (p plainCluster) knowsTooMuch(v vv) bool {
	return v[0] > p.nodes[0].count || v[1] > p.nodes[1].count || v[2] > p.nodes[2].count
}

func (p plainCluster) refusal(node int, key string, ctx vv) int {
	switch {
	case !p.up[node]:
		return impl.ErrDown
	case ownersTold(key)[2] == node:
		return impl.ErrOwner
	case p.knowsTooMuch(ctx):
		return impl.ErrOrder
	}
	return p.roomTold(node, key, len(p.nodes[node].objs[key].Sibs)+1)
}

func (p plainCluster) put(t *testing.T, node int, key string, ctx vv, value int, dead bool) wanted {
	t.Helper()
	inRange := inBounds(value, 999) && !(dead && value != 0)
	for _, n := range ctx {
		inRange = inRange && inBounds(n, 9999)
	}
	if code := shapeTold(node, key, inRange); code != impl.OK {
		return zeroAnd(code)
	}
	if code := p.refusal(node, key, ctx); code != impl.OK {
		return p.and(code)
	}
	new := sibling{Dot: dot{Node: node, N: p.nodes[node].count + 1}, Value: value, Dead: dead}
	o := writtenTold(p.nodes[node].objs[key], ctx, new)
	after := p.noted(t, node, "put "+key+" "+objTold(o)).posted(msg{From: node, To: otherOwnerTold(node, key), Key: key, Obj: o})
	return wanted{plain: &after, dot: new.Dot}
}

// posted has a message more, or a hint more, or neither.
func (p plainCluster) posted(m msg) plainCluster {
	fallback := ownersTold(m.Key)[2]
	if p.up[m.To] && len(p.net) < 60 {
		p.net = append(slices.Clone(p.net), m)
	}
	if !p.up[m.To] && p.up[fallback] && len(p.hints) < 60 {
		m.From = fallback
		p.hints = append(slices.Clone(p.hints), m)
	}
	return p
}

func (p plainCluster) get(key string, r int) wanted {
	code := shapeTold(0, key, r == 1 || r == 2)
	if code != impl.OK {
		return zeroAnd(code)
	}
	var replicas []obj
	owners := ownersTold(key)
	for _, owner := range owners[:2] {
		if p.up[owner] && len(replicas) < r {
			replicas = append(replicas, p.nodes[owner].objs[key])
		}
	}
	if len(replicas) < r {
		return zeroAnd(impl.ErrQuorum)
	}
	o := mergeTold(replicas)
	if len(o.Sibs) > 100 {
		return zeroAnd(impl.ErrMany)
	}
	return wanted{obj: o}
}

func (p plainCluster) drop(i int) wanted {
	if i < 0 || i >= len(p.net) {
		return zeroAnd(impl.ErrNone)
	}
	p.net = slices.Concat(p.net[:i], p.net[i+1:])
	return p.and(impl.OK)
}

func (p plainCluster) deliver(t *testing.T, i int) wanted {
	t.Helper()
	gone := p.drop(i)
	if gone.code != impl.OK {
		return gone
	}
	after, code := gone.plain.taking(t, p.net[i])
	return after.and(code)
}

// taking has what a message brought; nothing, if its node is down, or has no room for it.
func (p plainCluster) taking(t *testing.T, m msg) (plainCluster, int) {
	t.Helper()
	if !p.up[m.To] {
		return p, impl.ErrDown
	}
	had := p.nodes[m.To].objs[m.Key]
	both := joinedTold(had, m.Obj)
	if alike(both, had) {
		return p, impl.OK
	}
	if code := p.roomTold(m.To, m.Key, len(both.Sibs)); code != impl.OK {
		return p, code
	}
	return p.noted(t, m.To, "join "+m.Key+" "+objTold(both)), impl.OK
}

func (p plainCluster) twice(i int) wanted {
	switch {
	case i < 0 || i >= len(p.net):
		return zeroAnd(impl.ErrNone)
	case len(p.net) == 60:
		return p.and(impl.ErrFull)
	}
	p.net = append(slices.Clone(p.net), p.net[i])
	return p.and(impl.OK)
}

func crashInRange(keep, torn int) bool { return inBounds(keep, 300) && inBounds(torn, 65536) }

func (p plainCluster) crash(node, keep, torn int) wanted {
	if code := shapeTold(node, "a", crashInRange(keep, torn)); code != impl.OK {
		return zeroAnd(code)
	}
	if !p.up[node] {
		return p.and(impl.ErrDown)
	}
	p.up[node] = false
	return p.and(impl.OK)
}

func (p plainCluster) back(node int) wanted {
	if !isNodeTold(node) {
		return zeroAnd(impl.ErrRange)
	}
	if p.up[node] {
		return p.and(impl.ErrUp)
	}
	p.up[node] = true
	return p.and(impl.OK)
}

func (p plainCluster) torn(t *testing.T, node int, key string, value, keep, torn int) wanted {
	t.Helper()
	if code := shapeTold(node, key, inBounds(value, 999) && crashInRange(keep, torn)); code != impl.OK {
		return zeroAnd(code)
	}
	had := p.nodes[node].objs[key]
	if code := p.refusal(node, key, had.Seen); code != impl.OK {
		return p.and(code)
	}
	record := "put " + key + " " + objTold(writtenTold(had, had.Seen, live(node, p.nodes[node].count+1, value)))
	if keep > 0 || torn >= len(sealTold(record)) {
		p = p.noted(t, node, record)
	}
	p.up[node] = false
	return p.and(impl.OK)
}

type clusterAnswer struct {
	Cluster cluster
	Dot     dot
	Obj     obj
	Count   int
	Yes     bool
	Code    int
}

// bare leaves out what shares memory: the rest can be compared.
func (a clusterAnswer) bare() [5]any { return [5]any{a.Dot, a.Obj.Seen, a.Count, a.Yes, a.Code} }

// An act is one call on a cluster, and what must come of it. It tells its name with what is handed in.
type act struct {
	name string
	ask  func(c cluster) clusterAnswer
	want func(t *testing.T, p plainCluster) wanted
	long bool                    // of a key that is too long
	knew func(p plainCluster) vv // of a put that is done: its context
}

func named(name string, arguments ...any) string { return name + " " + short(arguments) }

func putAct(node int, key string, ctx vv, value int, dead bool) act {
	return act{
		name: named("ClusterPut", node, key, ctx, value, dead),
		ask: func(c cluster) clusterAnswer {
			x, d, code := impl.ClusterPut(c, node, key, ctx, value, dead)
			return clusterAnswer{Cluster: x, Dot: d, Code: code}
		},
		want: func(t *testing.T, p plainCluster) wanted { return p.put(t, node, key, ctx, value, dead) },
		long: len(key) > impl.MaxText,
		knew: func(p plainCluster) vv { return ctx },
	}
}

func getAct(key string, r int) act {
	return act{
		name: named("ClusterGet", key, r),
		ask: func(c cluster) clusterAnswer {
			o, code := impl.ClusterGet(c, key, r)
			return clusterAnswer{Obj: o, Code: code}
		},
		want: func(t *testing.T, p plainCluster) wanted { return p.get(key, r) },
		long: len(key) > impl.MaxText,
	}
}

func tornAct(node int, key string, value, keep, torn int) act {
	return act{
		name: named("PutTorn", node, key, value, keep, torn),
		ask: func(c cluster) clusterAnswer {
			x, code := impl.PutTorn(c, node, key, value, keep, torn)
			return clusterAnswer{Cluster: x, Code: code}
		},
		want: func(t *testing.T, p plainCluster) wanted { return p.torn(t, node, key, value, keep, torn) },
		long: len(key) > impl.MaxText,
		knew: func(p plainCluster) vv { return p.nodes[node].objs[key].Seen },
	}
}

// oneOf is an act whose call answers a cluster and a code alone.
func oneOf(name string, ask func(c cluster) (cluster, int), want func(t *testing.T, p plainCluster) wanted) act {
	return act{name: name, want: want, ask: func(c cluster) clusterAnswer { x, code := ask(c); return clusterAnswer{Cluster: x, Code: code} }}
}

func deliverAct(i int) act {
	return oneOf(named("Deliver", i), func(c cluster) (cluster, int) { return impl.Deliver(c, i) },
		func(t *testing.T, p plainCluster) wanted { return p.deliver(t, i) })
}

func dropAct(i int) act {
	return oneOf(named("DropMsg", i), func(c cluster) (cluster, int) { return impl.DropMsg(c, i) },
		func(t *testing.T, p plainCluster) wanted { return p.drop(i) })
}

func twiceAct(i int) act {
	return oneOf(named("TwiceMsg", i), func(c cluster) (cluster, int) { return impl.TwiceMsg(c, i) },
		func(t *testing.T, p plainCluster) wanted { return p.twice(i) })
}

func crashAct(node, keep, torn int) act {
	return oneOf(named("CrashAt", node, keep, torn), func(c cluster) (cluster, int) { return impl.CrashAt(c, node, keep, torn) },
		func(t *testing.T, p plainCluster) wanted { return p.crash(node, keep, torn) })
}

func backAct(node int) act {
	return oneOf(named("BackAt", node), func(c cluster) (cluster, int) { return impl.BackAt(c, node) },
		func(t *testing.T, p plainCluster) wanted { return p.back(node) })
}

// asTold asks the act of a cluster, and answers the plain cluster that is there then; that it was if the answer is zero.
func (a act) asTold(t *testing.T, p plainCluster) plainCluster {
	t.Helper()
	c := p.cluster()
	got, want := a.ask(c), a.want(t, p)
	asked := clusterAnswer{Dot: want.dot, Obj: want.obj, Count: want.count, Yes: want.yes, Code: want.code}
	if got.bare() != asked.bare() || !alike(got.Obj, want.obj) {
		t.Fatal(a.name, short(c), short(got.bare()), short(got.Obj), "not", short(asked.bare()), short(want.obj))
	}
	if !alikeClusters(c, p.cluster()) {
		t.Fatal(a.name, "changes its argument", short(c), short(p.cluster()))
	}
	if want.plain == nil {
		if !isZeroCluster(got.Cluster) {
			t.Fatal(a.name, got.Code, "beside a cluster that is not zero", short(got.Cluster))
		}
		return p
	}
	if told := want.plain.cluster(); !alikeClusters(got.Cluster, told) || !impl.ClusterOK(got.Cluster) {
		t.Fatal(a.name, got.Code, fmt.Sprint(got.Cluster), "not", fmt.Sprint(told))
	}
	return *want.plain
}

func (p plainCluster) after(t *testing.T, acts ...act) plainCluster {
	t.Helper()
	for _, a := range acts {
		p = a.asTold(t, p)
	}
	return p
}
