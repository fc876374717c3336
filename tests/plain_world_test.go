package tests

import (
	"fmt"
	"slices"
	"strconv"
	"strings"
	"testing"

	"loop.example/g00535/impl"
)

type (
	world = impl.World
	step  = impl.Act // an act of a world; those of this package's own are calls on a cluster
)

// Empty lists and nil are the same.
func alikeWorlds(a, b world) bool {
	return alikeClusters(a.Cluster, b.Cluster) && slices.Equal(a.Events, b.Events) && alikeGroups(a.Group, b.Group) && alikeRows(a.Rows, b.Rows)
}

func isZeroWorld(w world) bool { return alikeWorlds(w, world{}) }

func copyOfWorld(w world) world {
	return world{Cluster: copyOfCluster(w.Cluster), Events: slices.Clone(w.Events), Group: copyOfGroup(w.Group), Rows: copyOfRows(w.Rows)}
}

// What the words behind an act's first one say.
var stepWords = map[string]struct {
	kind   int
	fields string
}{
	"put":      {impl.AcPut, "node key value"},
	"delete":   {impl.AcDelete, "node key"},
	"deliver":  {impl.AcDeliver, "n"},
	"drop":     {impl.AcDrop, "n"},
	"twice":    {impl.AcTwice, "n"},
	"crash":    {impl.AcCrash, "node"},
	"back":     {impl.AcBack, "node"},
	"torn":     {impl.AcTorn, "node key value keep n"},
	"exchange": {impl.AcExchange, "node n"},
	"handoff":  {impl.AcHandoff, "node"},
	"poll":     {impl.AcPoll, "node n"},
	"takeover": {impl.AcTakeover, "node"},
	"cut":      {impl.AcCut, "node n"},
	"resync":   {impl.AcResync, "node"},
}

// stepIn reads an act like "put 0 a 5 blind"; a key that is "-" is the empty text.
func stepIn(text string) step {
	words := strings.Fields(text)
	told, found := stepWords[words[0]]
	if !found {
		panic(text)
	}
	s := step{Kind: told.kind, Blind: words[len(words)-1] == "blind"}
	for i, field := range strings.Fields(told.fields) {
		s = withField(s, field, words[i+1])
	}
	s.Key = strings.TrimPrefix(s.Key, "-")
	return s
}

func withField(s step, field, word string) step {
	n, _ := strconv.Atoi(word)
	switch field {
	case "node":
		s.Node = n
	case "key":
		s.Key = word
	case "value":
		s.Value = n
	case "keep":
		s.Keep = n
	case "n":
		s.N = n
	}
	return s
}

func stepsIn(texts ...string) []step {
	var steps []step
	for _, text := range texts {
		steps = append(steps, stepIn(text))
	}
	return steps
}

func stepRight(s step) bool {
	return between(1, s.Kind, 14) && isNodeTold(s.Node) && between(0, s.N, 100) && between(0, s.Keep, 100) &&
		(s.Key == "" || keyForm.MatchString(s.Key)) && between(0, s.Value, 999)
}

// A plain world has a plain cluster, and beside it all that there was, the group and the rows. What is done to one makes
// another; nothing that it holds is written into.
type plainWorld struct {
	plainCluster
	deeds []deed
	group group
	rows  []row
}

func newPlainWorld(t *testing.T) plainWorld {
	t.Helper()
	return plainWorld{plainCluster: newPlain(t), group: group{Epoch: 1}}
}

// plainWorldOf has of each put record of the nodes an event that knew none.
func plainWorldOf(t *testing.T, p plainCluster) plainWorld {
	t.Helper()
	w := plainWorld{plainCluster: p, group: group{Epoch: 1}}
	for id, records := range p.records {
		count := 0
		for _, record := range records {
			m := objRecordForm.FindStringSubmatch(record)
			if m == nil || m[1] != "put" {
				continue
			}
			count++
			e := deed{Dot: dot{Node: id, N: count}, Key: m[2]}
			for _, s := range objIn(m[3]).Sibs {
				if s.Dot == e.Dot {
					e.Value, e.Dead = s.Value, s.Dead
				}
			}
			w.deeds = append(w.deeds, e)
		}
	}
	return w
}

func (w plainWorld) world() world {
	return world{Cluster: w.cluster(), Events: slices.Clone(w.deeds), Group: copyOfGroup(w.group), Rows: copyOfRows(w.rows)}
}

// asked has what came of a call on the cluster; as it was if the call's own cluster is zero.
func (w plainWorld) asked(want wanted) (plainWorld, int) {
	if want.plain != nil {
		w.plainCluster = *want.plain
	}
	return w, want.code
}

// What chapter 15 asks of an act that is right.
func (w plainWorld) done(t *testing.T, s step) (plainWorld, int) {
	t.Helper()
	switch s.Kind {
	case impl.AcPut, impl.AcDelete, impl.AcTorn:
		switch {
		case s.Key == "":
			return w, impl.ErrKey
		case len(w.deeds) == 100:
			return w, impl.ErrMany
		case s.Kind == impl.AcTorn:
			return w.tornDone(t, s)
		}
		return w.putDone(t, s)
	case impl.AcDeliver:
		return w.asked(w.deliver(t, s.N))
	case impl.AcDrop:
		return w.asked(w.drop(s.N))
	case impl.AcTwice:
		return w.asked(w.twice(s.N))
	case impl.AcCrash:
		return w.asked(w.crash(s.Node, s.Keep, s.N))
	case impl.AcBack:
		return w.asked(w.back(s.Node))
	case impl.AcExchange:
		other := s.Node + 1
		if s.N&1 == 1 {
			other = s.Node + 2
		}
		return w.asked(w.exchange(t, s.Node, []int{0, 1, 2, 0, 1}[other]))
	case impl.AcHandoff:
		return w.asked(w.handoff(t, s.Node))
	case impl.AcTakeover:
		var code int
		w.group, code = takeoverTold(w.group, s.Node)
		return w, code
	}
	if !w.up[s.Node] {
		return w, impl.ErrDown
	}
	return w.groupDone(t, s)
}

// knownHere is what a reader of the key finds: what the first of its owners that is up has.
func (w plainWorld) knownHere(key string) (vv, bool) {
	owners := ownersTold(key)
	for _, owner := range owners[:2] {
		if w.up[owner] {
			return w.nodes[owner].objs[key].Seen, true
		}
	}
	return vv{}, false
}

func (w plainWorld) putDone(t *testing.T, s step) (plainWorld, int) {
	t.Helper()
	e := deed{Key: s.Key, Value: s.Value}
	if s.Kind == impl.AcDelete {
		e.Value, e.Dead = 0, true
	}
	if !s.Blind {
		known, found := w.knownHere(s.Key)
		if !found {
			return w, impl.ErrQuorum
		}
		e.Ctx = known
	}
	want := w.put(t, s.Node, s.Key, e.Ctx, e.Value, e.Dead)
	if want.code != impl.OK {
		return w, want.code
	}
	e.Dot = want.dot
	w.deeds = append(slices.Clone(w.deeds), e)
	return w.asked(want)
}

func (w plainWorld) tornDone(t *testing.T, s step) (plainWorld, int) {
	t.Helper()
	had := w.nodes[s.Node]
	after, code := w.asked(w.torn(t, s.Node, s.Key, s.Value, s.Keep, s.N))
	if after.nodes[s.Node].count > had.count {
		e := deed{Dot: dot{Node: s.Node, N: had.count + 1}, Key: s.Key, Value: s.Value, Ctx: had.objs[s.Key].Seen}
		after.deeds = append(slices.Clone(w.deeds), e)
	}
	return after, code
}

// groupDone has what acts do that ask for a node that is up.
func (w plainWorld) groupDone(t *testing.T, s step) (plainWorld, int) {
	t.Helper()
	x := w.nodes[s.Node]
	switch s.Kind {
	case impl.AcCut:
		switch {
		case s.N <= x.cut || s.N > x.count:
			return w, impl.ErrRange
		case len(w.records[s.Node]) == 300:
			return w, impl.ErrFull
		}
		w.plainCluster = w.noted(t, s.Node, fmt.Sprintf("cut %d", s.N))
		return w, impl.OK
	case impl.AcResync:
		w.group.Acked[s.Node] = max(w.group.Acked[s.Node], x.cut)
		if s.Node == 0 {
			w.rows = factsOf(x.objs).rows()
		}
		return w, impl.OK
	}
	acked := w.group.Acked[s.Node]
	if acked < x.cut {
		return w, impl.ErrCut
	}
	for _, e := range x.feed {
		if e.Dot.N > acked && e.Dot.N <= acked+s.N {
			w.group.Acked[s.Node] = e.Dot.N
			w.group.Stream = append(slices.Clone(w.group.Stream), e.Dot)
			if s.Node != 0 {
				continue
			}
			rows := factsIn(w.rows).with(e.Key, x.objs[e.Key]).rows()
			if len(rows) > mostRows {
				return w, impl.ErrMany
			}
			w.rows = rows
		}
	}
	return w, impl.OK
}

// asTold does the act, and answers the plain world that is there then, with the act's code.
func (w plainWorld) asTold(t *testing.T, s step) (plainWorld, int) {
	t.Helper()
	given := w.world()
	want, wantCode := w.done(t, s)
	got, code := impl.WorldDo(given, s)
	if told := want.world(); code != wantCode || !alikeWorlds(got, told) {
		t.Fatal("WorldDo", fmt.Sprintf("%+v", s), short(given), code, fmt.Sprint(got), "not", wantCode, fmt.Sprint(told))
	}
	if !impl.WorldOK(got) {
		t.Fatal("WorldDo", fmt.Sprintf("%+v", s), short(given), "a world that is not right", short(got))
	}
	if !alikeWorlds(given, w.world()) {
		t.Fatal("WorldDo", fmt.Sprintf("%+v", s), "changes its argument", short(given))
	}
	return want, code
}

// doing does acts one by one, none of which may have a code.
func (w plainWorld) doing(t *testing.T, texts ...string) plainWorld {
	t.Helper()
	for _, s := range stepsIn(texts...) {
		next, code := w.asTold(t, s)
		if code != impl.OK {
			t.Fatal("WorldDo", s, code)
		}
		w = next
	}
	return w
}

// refusing does an act that must have that code.
func (w plainWorld) refusing(t *testing.T, text string, want int) plainWorld {
	t.Helper()
	next, code := w.asTold(t, stepIn(text))
	if code != want {
		t.Fatal("WorldDo", text, code, "not", want)
	}
	return next
}
