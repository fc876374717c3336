package tests

import (
	"fmt"
	"reflect"
	"runtime"
	"strings"
	"sync"
	"testing"
	"testing/synctest"

	"loop.example/g00535/impl"
)

// Promise 1, of clusters: an argument is as it was behind the call, up to the end of each of its lists and behind it, an
// answer shares no memory, and no answer hangs on how goroutines run.

// roomy is a copy of what is handed in, with room behind the end of each list that it has, however deep.
func roomy(v reflect.Value) reflect.Value {
	copied := reflect.New(v.Type()).Elem()
	switch v.Kind() {
	case reflect.Slice:
		list := reflect.MakeSlice(v.Type(), v.Len()+2, v.Len()+2)
		for i := range v.Len() {
			list.Index(i).Set(roomy(v.Index(i)))
		}
		copied.Set(list.Slice(0, v.Len()))
	case reflect.Struct:
		for i := range v.NumField() {
			copied.Field(i).Set(roomy(v.Field(i)))
		}
	default:
		copied.Set(v)
	}
	return copied
}

func lendCluster(c cluster) cluster { return roomy(reflect.ValueOf(c)).Interface().(cluster) }

// eachList asks of each list, however deep, those in the room behind the end of others too.
func eachList(v reflect.Value, ask func(list reflect.Value)) {
	switch v.Kind() {
	case reflect.Slice:
		wide := v.Slice(0, v.Cap())
		for i := range wide.Len() {
			eachList(wide.Index(i), ask)
		}
		ask(wide)
	case reflect.Struct:
		for i := range v.NumField() {
			eachList(v.Field(i), ask)
		}
	}
}

// wide tells each list up to the end of the room behind it.
func wide(what any) string {
	var text strings.Builder
	eachList(reflect.ValueOf(what), func(list reflect.Value) { fmt.Fprintln(&text, list) })
	return text.String()
}

func spansOf(what any) []span {
	var all []span
	eachList(reflect.ValueOf(what), func(list reflect.Value) {
		from := list.Pointer()
		all = append(all, span{from, from + uintptr(list.Cap())*list.Type().Elem().Size()})
	})
	return all
}

// wipe writes all over each list, and all over the room behind it.
func wipe(what any) {
	eachList(reflect.ValueOf(what), func(list reflect.Value) {
		for i := range list.Len() {
			list.Index(i).SetZero()
		}
	})
}

// Each call, with each of its codes.
func actsOfAllKinds() []act {
	return []act{
		{name: "ClusterOK", ask: func(c cluster) clusterAnswer { impl.ClusterOK(c); return clusterAnswer{} }},
		{name: "NewCluster", ask: func(c cluster) clusterAnswer { return clusterAnswer{Cluster: impl.NewCluster()} }},
		putAct(0, "a", vv{}, 5, false), putAct(0, "a", vv{1, 1}, 0, true), putAct(1, "a", vv{}, 5, false), putAct(2, "e", vv{}, 5, false),
		putAct(0, otherKey, vv{}, 5, false), putAct(2, "a", vv{}, 5, false), putAct(0, "a", vv{999}, 5, false), putAct(0, "a", vv{-1}, 5, false),
		putAct(3, "a", vv{}, 5, false), putAct(0, "A", vv{}, 5, false), putAct(0, longKeys[0], vv{}, 5, false),
		getAct("a", 1), getAct("a", 2), getAct("b", 2), getAct("e", 1), getAct("zzzzzz", 2), getAct("a", 3), getAct("A", 1),
		deliverAct(0), deliverAct(1), deliverAct(2), deliverAct(3), deliverAct(-1), dropAct(0), dropAct(3), dropAct(60), twiceAct(0), twiceAct(3), twiceAct(-1),
		crashAct(0, 0, 0), crashAct(1, 1, 5), crashAct(2, 300, 0), crashAct(0, -1, 0), backAct(0), backAct(1), backAct(2), backAct(3),
		tornAct(0, "a", 5, 0, 0), tornAct(0, "a", 5, 1, 0), tornAct(1, "a", 5, 0, 9), tornAct(2, "a", 5, 0, 0), tornAct(0, "e", 5, 0, 60), tornAct(0, "a", -1, 0, 0),
		exchangeAct(0, 1), exchangeAct(2, 0), exchangeAct(2, 1), exchangeAct(1, 1), exchangeAct(-1, 0), handoffAct(0), handoffAct(1), handoffAct(2), handoffAct(3),
		repairAct("a"), repairAct("b"), repairAct("e"), repairAct("zzzzzz"), repairAct("A"), repairAct(longKeys[0]), settleAct(), convergedAct(),
	}
}

// Right and wrong ones.
func clustersOfAllKinds(t *testing.T) []cluster {
	t.Helper()
	var all []cluster
	for _, p := range plainClusters(t) {
		all = append(all, p.cluster())
	}
	for i, c := range wrongClusters(t) {
		if i%9 == 0 {
			all = append(all, c)
		}
	}
	return all
}

func TestNoCallTouchesACluster(t *testing.T) {
	for i, c := range clustersOfAllKinds(t) {
		lent := lendCluster(c)
		was, spans := wide(lent), spansOf(lent)
		for _, a := range actsOfAllKinds() {
			got := a.ask(lent)
			told := wide(got)
			if wide(lent) != was {
				t.Fatal(a.name, "changes an argument", i)
			}
			own := spansOf(got)
			if !apart(own, spans) || !allApart(own) {
				t.Fatal(a.name, "answers memory that others have", i)
			}
			wipe(got)
			if again := a.ask(lent); wide(again) != told || again.bare() != got.bare() {
				t.Fatal(a.name, "answers what was answered ahead", i)
			}
			runtime.KeepAlive(lent)
		}
	}
}

// A cluster whose lists stand in one memory is no other case.
func TestAClusterThatHasOneListTwice(t *testing.T) {
	c := somePlain(t).cluster()
	c.Nodes[2] = node{Id: 2}
	c.Net = []msg{sent(0, 1, "a", "1.1.0|a1=5|b1=6"), sent(0, 1, "a", "1.1.0|a1=5|b1=6")}
	c.Nodes[0].Cells[0].Obj.Sibs = c.Net[0].Obj.Sibs
	c.Net[1].Obj.Sibs = c.Net[0].Obj.Sibs
	c.Hints = c.Net
	if !impl.ClusterOK(c) {
		t.Fatal("ClusterOK", c)
	}
	for _, a := range actsOfAllKinds() {
		was := wide(c)
		got, want := a.ask(c), a.ask(copyOfCluster(c))
		if !alikeClusters(got.Cluster, want.Cluster) || !alike(got.Obj, want.Obj) || got.bare() != want.bare() {
			t.Error(a.name, short(got), short(want))
		}
		if own := spansOf(got); !apart(own, spansOf(c)) || !allApart(own) || wide(c) != was {
			t.Error(a.name, "answers memory that others have")
		}
	}
}

func answersOfClusters(clusters []cluster) []string {
	var all []string
	for _, c := range clusters {
		for _, a := range actsOfAllKinds() {
			got := a.ask(c)
			all = append(all, told(a.name, got.Cluster, got.Obj, got.bare()))
		}
	}
	return all
}

// On one processor and on several, alone and beside others that work on the same clusters.
func TestHoweverGoroutinesRun(t *testing.T) {
	clusters := clustersOfAllKinds(t)
	first := answersOfClusters(clusters)
	hold := func(many int) {
		for i, again := range answersOfClusters(clusters) {
			if again != first[i] {
				t.Errorf("%d processors: %.300s, not %.300s", many, again, first[i])
				return
			}
		}
	}
	defer runtime.GOMAXPROCS(runtime.GOMAXPROCS(0))
	for _, many := range []int{1, 2, 8} {
		runtime.GOMAXPROCS(many)
		hold(many)
		var all sync.WaitGroup
		for range 3 {
			all.Go(func() { hold(many) })
		}
		all.Wait()
	}
}

// No goroutine waits for anything behind a call: the bubble ends only if all that were started in it have ended.
func TestAllGoroutinesAreJoined(t *testing.T) {
	clusters := clustersOfAllKinds(t)
	synctest.Test(t, func(t *testing.T) { answersOfClusters(clusters) })
}
