package tests

import (
	"slices"
	"strconv"
	"testing"

	"loop.example/g00535/impl"
)

// Promise 7: buckets that are unlike are told, and no others.

// Of "c" the bucket is 0, of "d" 1, of "a" and "key" 2, of "b" 3.
var fourBuckets = []string{"join c 0.1.0|b1=5", "join d 0.0.3|c3!", "join a 0.2.0|b1=5|b2=6", "join key 0.0.2", "join b 0.2.1|b2=7|c1=8"}

func pairTold(t *testing.T, records, others []string, want ...int) {
	t.Helper()
	a, b := nodeTold(t, 0, len(records)/2, records...), nodeTold(t, 0, len(others), others...)
	if got := unlikeAsTold(t, a, b); !slices.Equal(got, want) {
		t.Fatal("DiffBuckets", records, others, got, "not", want)
	}
	bucketsAsTold(t, a)
	bucketsAsTold(t, b)
}

func TestUnlikeBuckets(t *testing.T) {
	with := func(more ...string) []string { return append(slices.Clone(fourBuckets), more...) }
	instead := func(i int, record string) []string {
		records := slices.Clone(fourBuckets)
		records[i] = record
		return records
	}
	pairTold(t, fourBuckets, nil, 0, 1, 2, 3)
	// a key that one alone has
	pairTold(t, fourBuckets, with("join g 0.0.1"), 0)
	pairTold(t, fourBuckets, with("put h 1.0.0|a1=0"), 1)
	pairTold(t, fourBuckets, with("join dd 0.0.1", "join zz 0.0.1"), 1, 3)
	for i, bucket := range []int{0, 1, 2, 2, 3} {
		pairTold(t, fourBuckets, slices.Delete(slices.Clone(fourBuckets), i, i+1), bucket)
	}
	// another value, a tombstone, and none at all
	pairTold(t, fourBuckets, instead(0, "join c 0.1.0|b1=6"), 0)
	pairTold(t, fourBuckets, instead(0, "join c 0.1.0|b1!"), 0)
	pairTold(t, fourBuckets, instead(1, "join d 0.0.3|c3=0"), 1)
	pairTold(t, fourBuckets, instead(1, "join d 0.0.3"), 1)
	// another Seen with the same siblings
	pairTold(t, fourBuckets, with("join c 0.1.1|b1=5"), 0)
	pairTold(t, fourBuckets, with("join d 0.9999.3|c3!"), 1)
	pairTold(t, fourBuckets, with("join key 0.1.2"), 2)
	// one sibling more, one less, one instead of another
	pairTold(t, fourBuckets, with("join b 0.3.1|b2=7|b3=7|c1=8"), 3)
	pairTold(t, fourBuckets, with("put b 1.2.1|a1=1|b2=7|c1=8"), 3)
	pairTold(t, fourBuckets, with("join b 0.2.1|b2=7"), 3)
	pairTold(t, fourBuckets, instead(2, "join a 0.2.0|b1=5"), 2)
	// the same object at another key of the bucket, and at one of another bucket
	pairTold(t, fourBuckets, instead(0, "join g 0.1.0|b1=5"), 0)
	pairTold(t, fourBuckets, instead(0, "join h 0.1.0|b1=5"), 0, 1)
	pairTold(t, fourBuckets, instead(3, "join e 0.0.2"), 2)
	// in several buckets, and in all
	pairTold(t, fourBuckets, with("join a 0.2.0|b2=6", "join c 0.1.0"), 0, 2)
	pairTold(t, fourBuckets, with("join b 0.2.2", "join d 0.0.4", "join key 0.0.3"), 1, 2, 3)
	pairTold(t, fourBuckets, with("join a 0.2.2", "join b 0.2.2", "join c 0.1.2", "join d 0.0.4"), 0, 1, 2, 3)
}

// The same keys with the same objects, by whatever records, and whatever else the nodes are.
func TestBucketsAlikeByOtherRecords(t *testing.T) {
	backwards := slices.Clone(fourBuckets)
	slices.Reverse(backwards)
	pairTold(t, fourBuckets, backwards)
	pairTold(t, fourBuckets, slices.Concat([]string{"join a 0.1.0|b1=5", "join b 0.0.1|c1=8"}, fourBuckets))
	pairTold(t, []string{"put a 1.0.0|a1=5", "put a 2.0.0|a2=6"}, []string{"put a 1.0.0|a1=7", "put a 2.0.0|a2=6", "cut 1"})
	pairTold(t, []string{"put a 1.0.0|a1=5", "cut 1"}, []string{"put a 1.0.0|a1=5"})

	// put here, joined there: other numbers, other feeds, other disks
	x := nodeTold(t, 0, 1, "put a 1.0.0|a1=5", "put b 2.0.0|a2=6", "cut 1", "put b 3.0.0|a3=7")
	for id := 1; id < impl.Nodes; id++ {
		y := nodeTold(t, id, 2, "join b 2.0.0|a2=6", "join b 3.0.0|a3=7", "join a 1.0.0|a1=5")
		if got := unlikeAsTold(t, x, y); len(got) != 0 {
			t.Error("DiffBuckets", got)
		}
	}
	for sure := range len(fourBuckets) + 1 {
		if got := unlikeAsTold(t, nodeTold(t, 0, sure, fourBuckets...), sureTold(t, 0, fourBuckets...)); len(got) != 0 {
			t.Error("DiffBuckets", sure, got)
		}
	}
}

// Texts that are unlike are told so even where their sums are the same.
func TestUnlikeBucketsWithTheSameSum(t *testing.T) {
	bySum := map[int][]node{}
	for value := range impl.MaxValue + 1 {
		x := sureTold(t, 1, "join a 1.0.0|a1="+strconv.Itoa(value))
		sum := sumTold(textsTold(x)[2])
		bySum[sum] = append(bySum[sum], x)
	}
	pairs := 0
	for sum, nodes := range bySum {
		for i, x := range nodes {
			if sums, code := impl.Digest(x); !slices.Equal(sums, []int{0, 0, sum, 0}) || code != impl.OK {
				t.Fatal("Digest", sums, code, sum)
			}
			if got := unlikeAsTold(t, x, nodes[0]); (len(got) == 1) != (i > 0) {
				t.Fatal("DiffBuckets", got, i)
			}
			pairs += i
		}
	}
	if pairs == 0 {
		t.Error("no two texts have the same sum")
	}
}

// Nodes that put, and join what the others have; beside them nothing but what they hold themselves.
type storeRun struct {
	history
	nodes []node
}

var storeKeys = []string{"a", "b", "c", "d", "e", "key", "zzzzzz", "ab"}

func (s *storeRun) put(t *testing.T, at int, key string) {
	t.Helper()
	had, code := impl.ObjAt(s.nodes[at], key)
	if code != impl.OK {
		t.Fatal("ObjAt", key, code)
	}
	ctx := had.Seen
	if s.draw(2) == 0 {
		ctx = vv{}
	}
	x, _, code := impl.PutNode(s.nodes[at], key, ctx, 0, s.draw(3) == 0)
	if code != impl.OK {
		t.Fatal("PutNode", key, code)
	}
	s.nodes[at] = x
}

// carry joins one node's object to another one's.
func (s *storeRun) carry(t *testing.T, from, to int, key string) {
	t.Helper()
	o, code := impl.ObjAt(s.nodes[from], key)
	if code != impl.OK {
		t.Fatal("ObjAt", key, code)
	}
	x, _, code := impl.JoinNode(s.nodes[to], key, o)
	if code != impl.OK {
		t.Fatal("JoinNode", key, code)
	}
	s.nodes[to] = x
}

func (s *storeRun) check(t *testing.T) {
	t.Helper()
	for i, x := range s.nodes {
		bucketsAsTold(t, x)
		for _, y := range s.nodes[:i+1] {
			unlikeAsTold(t, x, y)
		}
	}
}

// repair carries what the unlike buckets of two nodes hold, and nothing else.
func (s *storeRun) repair(t *testing.T, a, b int) {
	t.Helper()
	unlike, code := impl.DiffBuckets(s.nodes[a], s.nodes[b])
	if code != impl.OK {
		t.Fatal("DiffBuckets", code)
	}
	for _, bucket := range unlike {
		here, _ := impl.KeysIn(s.nodes[a], bucket)
		there, _ := impl.KeysIn(s.nodes[b], bucket)
		if len(here)+len(there) == 0 {
			t.Fatal("an empty bucket is told to be unlike", bucket)
		}
		for _, key := range slices.Concat(here, there) {
			s.carry(t, a, b, key)
			s.carry(t, b, a, key)
		}
	}
	if got := unlikeAsTold(t, s.nodes[a], s.nodes[b]); len(got) != 0 {
		t.Fatal("unlike behind a repair", got)
	}
}

func newStoreRun(seed uint32) *storeRun {
	s := &storeRun{history: history{state: seed}}
	for id := range impl.Nodes {
		s.nodes = append(s.nodes, node{Id: id})
	}
	return s
}

func TestRunsOfBuckets(t *testing.T) {
	for seed := range uint32(40) {
		s := newStoreRun(seed)
		for range 40 {
			at, key := s.draw(impl.Nodes), storeKeys[s.draw(len(storeKeys))]
			if s.draw(3) == 0 {
				s.put(t, at, key)
			} else {
				s.carry(t, at, (at+1+s.draw(2))%impl.Nodes, key)
			}
			s.check(t)
		}
		s.repair(t, 0, 1)
		s.repair(t, 1, 2)
		s.repair(t, 0, 1)
		s.check(t)
		if got := unlikeAsTold(t, s.nodes[0], s.nodes[2]); len(got) != 0 {
			t.Fatal("unlike behind all repairs", got)
		}
	}
}

// Each pair of small objects, at one key: the bucket is told if they are unlike, and not if they are the same.
func TestEachPairOfSmallObjects(t *testing.T) {
	var nodes []node
	for _, o := range smallReplicas(vv{2, 1, 0}) {
		if isZero(o) {
			nodes = append(nodes, node{Id: 2})
			continue
		}
		nodes = append(nodes, sureTold(t, 2, "join b "+objTold(o), "join a 7.7.0"))
	}
	for i, x := range nodes {
		for k, y := range nodes {
			got := unlikeAsTold(t, x, y)
			if slices.Contains(got, 3) != (i != k) {
				t.Fatal("DiffBuckets", short(x), short(y), got)
			}
		}
	}
}
