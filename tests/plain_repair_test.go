package tests

import (
	"maps"
	"slices"
	"testing"

	"loop.example/g00535/impl"
)

// What repairs make of a plain cluster. What a node takes is a line more, so that lines tell how many objects were changed.

func (p plainCluster) lines() int { return len(p.records[0]) + len(p.records[1]) + len(p.records[2]) }

// madeAlike has both nodes' objects as they were ahead of it.
func (p plainCluster) madeAlike(t *testing.T, first, second int, key string) plainCluster {
	t.Helper()
	there := msg{From: first, To: second, Key: key, Obj: p.nodes[first].objs[key]}
	back := msg{From: second, To: first, Key: key, Obj: p.nodes[second].objs[key]}
	p, _ = p.taking(t, there)
	p, _ = p.taking(t, back)
	return p
}

// keysHad has all keys that some node has, rising.
func (p plainCluster) keysHad() []string {
	all := map[string]int{}
	for id, x := range p.nodes {
		for key := range x.objs {
			all[key] = id
		}
	}
	return slices.Sorted(maps.Keys(all))
}

// exchanged goes through the keys of which neither node is the fallback: if neither has it, nothing comes of it.
func (p plainCluster) exchanged(t *testing.T, a, b int) plainCluster {
	t.Helper()
	for _, key := range p.keysHad() {
		if fallback := ownersTold(key)[2]; fallback != a && fallback != b {
			p = p.madeAlike(t, a, b, key)
		}
	}
	return p
}

func (p plainCluster) counted(count int) wanted { return wanted{plain: &p, count: count} }

func (p plainCluster) exchange(t *testing.T, a, b int) wanted {
	t.Helper()
	if !isNodeTold(a) || !isNodeTold(b) || a == b {
		return zeroAnd(impl.ErrRange)
	}
	if !p.up[a] || !p.up[b] {
		return p.and(impl.ErrDown)
	}
	after := p.exchanged(t, a, b)
	return after.counted(after.lines() - p.lines())
}

// handedOff has the hints that stay in their order.
func (p plainCluster) handedOff(t *testing.T, node int) plainCluster {
	t.Helper()
	hints := p.hints
	p.hints = nil
	for _, h := range hints {
		if h.From == node && p.up[h.To] {
			p, _ = p.taking(t, h)
		} else {
			p.hints = append(slices.Clone(p.hints), h)
		}
	}
	return p
}

func (p plainCluster) handoff(t *testing.T, node int) wanted {
	t.Helper()
	if !isNodeTold(node) {
		return zeroAnd(impl.ErrRange)
	}
	if !p.up[node] {
		return p.and(impl.ErrDown)
	}
	after := p.handedOff(t, node)
	return after.counted(len(p.hints) - len(after.hints))
}

func (p plainCluster) readRepair(t *testing.T, key string) wanted {
	t.Helper()
	if code := shapeTold(0, key, true); code != impl.OK {
		return zeroAnd(code)
	}
	owners := ownersTold(key)
	if !p.up[owners[0]] || !p.up[owners[1]] {
		return p.and(impl.ErrDown)
	}
	after := p.madeAlike(t, owners[0], owners[1], key)
	return after.counted(after.lines() - p.lines())
}

func (p plainCluster) settled(t *testing.T) plainCluster {
	t.Helper()
	p.up = [impl.Nodes]bool{true, true, true}
	p = p.handedOff(t, 0).handedOff(t, 1).handedOff(t, 2)
	return p.exchanged(t, 0, 1).exchanged(t, 0, 2).exchanged(t, 1, 2)
}

func (p plainCluster) converged() bool {
	for _, key := range p.keysHad() {
		owners := ownersTold(key)
		if !alike(p.nodes[owners[0]].objs[key], p.nodes[owners[1]].objs[key]) {
			return false
		}
	}
	return true
}

// countOf is an act whose call answers a cluster, a count and a code.
func countOf(name string, ask func(c cluster) (cluster, int, int), want func(t *testing.T, p plainCluster) wanted) act {
	return act{name: name, want: want, ask: func(c cluster) clusterAnswer {
		x, count, code := ask(c)
		return clusterAnswer{Cluster: x, Count: count, Code: code}
	}}
}

func exchangeAct(a, b int) act {
	return countOf(named("Exchange", a, b), func(c cluster) (cluster, int, int) { return impl.Exchange(c, a, b) },
		func(t *testing.T, p plainCluster) wanted { return p.exchange(t, a, b) })
}

func handoffAct(node int) act {
	return countOf(named("Handoff", node), func(c cluster) (cluster, int, int) { return impl.Handoff(c, node) },
		func(t *testing.T, p plainCluster) wanted { return p.handoff(t, node) })
}

func repairAct(key string) act {
	a := countOf(named("ReadRepair", key), func(c cluster) (cluster, int, int) { return impl.ReadRepair(c, key) },
		func(t *testing.T, p plainCluster) wanted { return p.readRepair(t, key) })
	a.long = len(key) > impl.MaxText
	return a
}

func settleAct() act {
	return oneOf("SettleAll", impl.SettleAll, func(t *testing.T, p plainCluster) wanted { return p.settled(t).and(impl.OK) })
}

func convergedAct() act {
	return act{
		name: "Converged",
		ask: func(c cluster) clusterAnswer {
			yes, code := impl.Converged(c)
			return clusterAnswer{Yes: yes, Code: code}
		},
		want: func(t *testing.T, p plainCluster) wanted { return wanted{yes: p.converged()} },
	}
}
