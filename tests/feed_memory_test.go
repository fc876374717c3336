package tests

import (
	"math"
	"reflect"
	"runtime"
	"slices"
	"testing"
	"testing/synctest"

	"loop.example/g00535/impl"
)

// Promise 1, of feeds and groups: an argument is as it was behind the call, up to the end of each of its lists and behind
// it, and an answer shares no memory with an argument, nor with a later answer.

// What a call on a group and a node answers: calls leave out what they do not tell.
type feedAnswer struct {
	Group   group
	Batch   batch
	Entries []entry
	Node    node
	Yes     bool
	Code    int
}

type feedCall struct {
	name string
	ask  func(g group, x node) feedAnswer
}

func takeoverCall(owner int) feedCall {
	return feedCall{told("Takeover", owner), func(g group, x node) feedAnswer {
		after, code := impl.Takeover(g, owner)
		return feedAnswer{Group: after, Code: code}
	}}
}

func feedAfterCall(n, k int) feedCall {
	return feedCall{told("FeedAfter", n, k), func(g group, x node) feedAnswer {
		list, code := impl.FeedAfter(x, n, k)
		return feedAnswer{Entries: list, Code: code}
	}}
}

func pollCall(k int) feedCall {
	return feedCall{told("Poll", k), func(g group, x node) feedAnswer {
		b, code := impl.Poll(g, x, k)
		return feedAnswer{Batch: b, Code: code}
	}}
}

// ackCall asks of the event that is so far behind what is acknowledged, with an epoch that is so far from the group's.
func ackCall(later, id, more int) feedCall {
	return feedCall{told("Ack", later, id, more), func(g group, x node) feedAnswer {
		after, yes, code := impl.Ack(g, g.Epoch+later, dot{Node: id, N: g.Acked[id] + more})
		return feedAnswer{Group: after, Yes: yes, Code: code}
	}}
}

func resyncCall(later int) feedCall {
	return feedCall{told("Resync", later), func(g group, x node) feedAnswer {
		after, code := impl.Resync(g, g.Epoch+later, x)
		return feedAnswer{Group: after, Code: code}
	}}
}

func cutCall(n int) feedCall {
	return feedCall{told("CutFeed", n), func(g group, x node) feedAnswer {
		y, code := impl.CutFeed(x, n)
		return feedAnswer{Node: y, Code: code}
	}}
}

// Each call, with each of its codes.
func feedCalls() []feedCall {
	all := []feedCall{
		{"NewGroup", func(g group, x node) feedAnswer { return feedAnswer{Group: impl.NewGroup()} }},
		{"GroupOK", func(g group, x node) feedAnswer { return feedAnswer{Yes: impl.GroupOK(g)} }},
		resyncCall(0), resyncCall(-1), resyncCall(1),
	}
	for _, n := range []int{math.MinInt, -1, 0, 1, 2, 3, 5, 300, math.MaxInt} {
		all = append(all, takeoverCall(n), feedAfterCall(n, 300), feedAfterCall(2, n), pollCall(n), cutCall(n))
	}
	for id := range impl.Nodes {
		for more := -1; more <= 2; more++ {
			all = append(all, ackCall(0, id, more))
		}
		all = append(all, ackCall(-1, id, 1), ackCall(1, id, 1), ackCall(0, id, -10000))
	}
	return all
}

func lentCopy[T any](what T) T { return roomy(reflect.ValueOf(what)).Interface().(T) }

// A lending is what calls are given, with room behind the end of each of its lists, and what it was.
type lending[G any] struct {
	given G
	was   string
	spans []span
}

func lendingOf[G any](given G) lending[G] {
	lent := lentCopy(given)
	return lending[G]{lent, wide(lent), spansOf(lent)}
}

// touchesNothing asks one call three times: it leaves what it is given as it was, and its answers have memory of their own.
func touchesNothing[G, A any](t *testing.T, l lending[G], ask func(given G) A, call ...any) {
	t.Helper()
	got := ask(l.given)
	first := told(wide(got), got)
	if wide(l.given) != l.was {
		t.Fatal("changes an argument:", call)
	}
	own := spansOf(got)
	if !apart(own, l.spans) || !allApart(own) {
		t.Fatal("answers memory that others have:", call)
	}
	second := ask(l.given)
	if !apart(own, spansOf(second)) {
		t.Fatal("answers memory that was answered ahead:", call)
	}
	wipe(got)
	if told(wide(second), second) != first || wide(l.given) != l.was {
		t.Fatal("shares what is written into an answer:", call)
	}
	if again := ask(l.given); told(wide(again), again) != first {
		t.Fatal("answers what was answered ahead:", call)
	}
	runtime.KeepAlive(got)
	runtime.KeepAlive(l)
}

// Pairs of right and wrong groups and nodes.
func pairsForMemory(t *testing.T) []feedAnswer {
	t.Helper()
	groups := append(rightGroups(), wrongGroups()[:9]...)
	nodes := append(feedNodes(t), wrongNodes(t)[:20]...)
	var all []feedAnswer
	for i := range max(len(groups), len(nodes)) {
		all = append(all, feedAnswer{Group: groups[i%len(groups)], Node: nodes[i%len(nodes)]})
		all = append(all, feedAnswer{Group: groups[i*3%9], Node: nodes[i%len(nodes)]})
	}
	return all
}

func TestNoCallTouchesAGroupOrItsNode(t *testing.T) {
	for i, pair := range pairsForMemory(t) {
		l := lendingOf(pair)
		for _, c := range feedCalls() {
			touchesNothing(t, l, func(pair feedAnswer) feedAnswer { return c.ask(pair.Group, pair.Node) }, c.name, i)
		}
	}
}

// Groups that go on in several ways from one beginning: no stream reaches into another, nor into the one that they come
// from, though that has room behind its end.
func TestStreamsThatPart(t *testing.T) {
	begin := lentCopy(group{Epoch: 1, Acked: vv{1, 1, 0}, Stream: dotsIn("a1", "b1")})
	first, _, _ := impl.Ack(begin, 1, dotIn("a2"))
	second, _, _ := impl.Ack(begin, 1, dotIn("b2"))
	third, _, _ := impl.Ack(first, 1, dotIn("c1"))
	fourth, _, _ := impl.Ack(first, 1, dotIn("a3"))
	taken, _ := impl.Takeover(first, 2)
	fifth, _, _ := impl.Ack(taken, 2, dotIn("b2"))
	for i, c := range []struct {
		g    group
		want []dot
	}{
		{begin, dotsIn("a1", "b1")},
		{first, dotsIn("a1", "b1", "a2")},
		{second, dotsIn("a1", "b1", "b2")},
		{third, dotsIn("a1", "b1", "a2", "c1")},
		{fourth, dotsIn("a1", "b1", "a2", "a3")},
		{taken, dotsIn("a1", "b1", "a2")},
		{fifth, dotsIn("a1", "b1", "a2", "b2")},
	} {
		if !slices.Equal(c.g.Stream, c.want) {
			t.Error("Stream", i, c.g.Stream, "not", c.want)
		}
	}
}

// No goroutine waits for anything behind a call, whatever was asked for and however much of it there was.
func TestFeedsLeaveNoGoroutine(t *testing.T) {
	pairs := pairsForMemory(t)
	synctest.Test(t, func(t *testing.T) {
		for _, pair := range pairs {
			for _, c := range feedCalls() {
				c.ask(pair.Group, pair.Node)
			}
		}
	})
}

func callsOfFeeds(t *testing.T) []call {
	var all []call
	for _, pair := range pairsForMemory(t) {
		for _, c := range feedCalls() {
			all = append(all, func() string { return told(c.name, c.ask(pair.Group, pair.Node)) })
		}
	}
	return all
}
