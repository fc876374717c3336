package tests

import (
	"math"
	"testing"

	"loop.example/g00535/impl"
)

// Promise 1, of views: an argument is as it was behind the call, up to the end of each of its lists and behind it, an
// answer shares no memory with an argument, nor with a later answer, and no two rows of an answer share any.

// What a call on a view is given, and what it answers: calls leave out what they do not ask for or tell.
type viewGiven struct {
	Rows, Others []row
	Node         node
	Entries      []entry
}

type viewAnswer struct {
	Rows []row
	Yes  bool
	Code int
}

type viewCall struct {
	name string
	ask  func(g viewGiven) viewAnswer
}

func applyKeyCall(key string) viewCall {
	return viewCall{named("ApplyKey", key), func(g viewGiven) viewAnswer {
		rows, code := impl.ApplyKey(g.Rows, g.Node, key)
		return viewAnswer{Rows: rows, Code: code}
	}}
}

func partRowsCall(part int) viewCall {
	return viewCall{named("PartRows", part), func(g viewGiven) viewAnswer {
		rows, code := impl.PartRows(g.Rows, part)
		return viewAnswer{Rows: rows, Code: code}
	}}
}

// Each call, with each of its codes.
func viewCalls() []viewCall {
	all := []viewCall{
		{"RowsOK", func(g viewGiven) viewAnswer { return viewAnswer{Yes: impl.RowsOK(g.Rows)} }},
		{"SameRows", func(g viewGiven) viewAnswer { return viewAnswer{Yes: impl.SameRows(g.Rows, g.Others)} }},
		{"SameRows of one twice", func(g viewGiven) viewAnswer { return viewAnswer{Yes: impl.SameRows(g.Rows, g.Rows)} }},
		{"ViewOf", func(g viewGiven) viewAnswer {
			rows, code := impl.ViewOf(g.Node)
			return viewAnswer{Rows: rows, Code: code}
		}},
		{"ApplyBatch", func(g viewGiven) viewAnswer {
			rows, code := impl.ApplyBatch(g.Rows, g.Node, g.Entries)
			return viewAnswer{Rows: rows, Code: code}
		}},
		{"ApplyBatch of nothing", func(g viewGiven) viewAnswer {
			rows, code := impl.ApplyBatch(g.Rows, g.Node, g.Entries[:0])
			return viewAnswer{Rows: rows, Code: code}
		}},
		{"ApplyBatch of the feed", func(g viewGiven) viewAnswer {
			rows, code := impl.ApplyBatch(g.Rows, g.Node, g.Node.Feed)
			return viewAnswer{Rows: rows, Code: code}
		}},
	}
	for _, key := range []string{"a", "b", "all", "dead", "aa", "k", "none", "", "B", longKeys[0]} {
		all = append(all, applyKeyCall(key))
	}
	for _, part := range []int{math.MinInt, -1, 0, 1, 2, 3, 4, math.MaxInt} {
		all = append(all, partRowsCall(part))
	}
	return all
}

// Right and wrong rows, nodes and entries. What is large comes seldom.
func givenToViews(t *testing.T) []viewGiven {
	t.Helper()
	rows := append(rightRows(), wrongRows()[:60]...)
	rows = append(rows, append(wrongOrdersOfRows(), wrongValuesOfRows()[:12]...)...)
	nodes := append(viewNodes(t)[:9], rightNodes(t)[:8]...)
	nodes = append(nodes, wrongNodes(t)[:20]...)
	lists := [][]entry{nil, entriesOf(1, 1, "b"), entriesOf(1, 1, "a", "b", "all", "dead", "none", "b"), entriesOf(1, 1, "zzzzzz", "k"), {{}}, entriesOf(1, 0, "a")}
	var all []viewGiven
	for i, r := range rows {
		all = append(all, viewGiven{Rows: r, Others: rows[i*7%len(rows)], Node: nodes[i%len(nodes)], Entries: lists[i%len(lists)]},
			viewGiven{Rows: r, Others: copyOfRows(r), Node: nodes[i%17], Entries: lists[i%4]})
	}
	return append(all, viewGiven{Rows: rowsOfKeys(100, oneValue), Node: fullNode(t, 100), Entries: entriesOf(1, 1, keysTold(fullNode(t, 100))...)},
		viewGiven{Rows: longRows()[0], Others: longRows()[0], Entries: make([]entry, impl.MaxList+1)})
}

func TestNoCallTouchesAView(t *testing.T) {
	for i, given := range givenToViews(t) {
		l := lendingOf(given)
		for _, c := range viewCalls() {
			touchesNothing(t, l, c.ask, c.name, i)
		}
	}
}

// Rows whose values stand in one list, each with the next ones behind its end: in what is answered each row has its own,
// and those of the argument stay as they are when the answer's rows grow.
func TestRowsThatShareTheirValues(t *testing.T) {
	x := viewNode(t)
	want := rowsInOneList()
	for _, ask := range []func(rows []row) ([]row, int){
		func(rows []row) ([]row, int) { return impl.ApplyKey(rows, x, "none") },
		func(rows []row) ([]row, int) { return impl.ApplyBatch(rows, x, nil) },
		func(rows []row) ([]row, int) { return impl.ApplyBatch(rows, x, entriesOf(1, 1, "dead", "none")) },
	} {
		given := rowsInOneList()
		got, code := ask(given)
		if !alikeRows(got, want) || code != impl.OK {
			t.Fatal("rows", got, code)
		}
		if own := spansOf(got); !apart(own, spansOf(given)) || !allApart(own) {
			t.Fatal("rows that share their values")
		}
		for i := range got {
			copied := copyOfRows(got)
			got[i].Values = append(got[i].Values, 77)
			scribble(got[i].Values, -7)
			copied[i].Values = got[i].Values
			if !alikeRows(got, copied) || !alikeRows(given, want) {
				t.Fatal("a row reaches into another one", i, got, given)
			}
		}
	}
}

// Views that go on in several ways from one beginning do not reach into each other.
func TestViewsThatPart(t *testing.T) {
	x := viewNode(t)
	begin := lentCopy(rowsIn("0 b 0", "1 c 1 5"))
	first, _ := impl.ApplyKey(begin, x, "a")
	second, _ := impl.ApplyKey(begin, x, "b")
	third, _ := impl.ApplyBatch(first, x, entriesOf(1, 1, "b", "c"))
	fourth, _ := impl.PartRows(first, 1)
	fifth, _ := impl.ApplyKey(fourth, x, "ab")
	for i, c := range []struct{ got, want []row }{
		{begin, rowsIn("0 b 0", "1 c 1 5")},
		{first, rowsIn("0 b 0", "1 a 9", "1 c 1 5")},
		{second, rowsIn("1 b 1 5", "1 c 1 5", "2 b 6")},
		{third, rowsIn("1 a 9", "1 b 1 5", "2 b 6")},
		{fourth, rowsIn("1 a 9", "1 c 1 5")},
		{fifth, rowsIn("1 a 9", "1 c 1 5", "2 ab 2")},
	} {
		if !alikeRows(c.got, c.want) {
			t.Error("rows", i, c.got, "not", c.want)
		}
	}
}

// Maps are gone through in any order: a view with as many rows as there may be is told alike each time.
func TestViewsAreToldAlikeEachTime(t *testing.T) {
	x := fullNode(t, 100)
	view, code := impl.ViewOf(x)
	if code != impl.OK {
		t.Fatal("ViewOf", code)
	}
	for range 50 {
		again, _ := impl.ViewOf(x)
		same, _ := impl.ApplyBatch(view, x, entriesOf(1, 1, "aa", "bb", "dv"))
		if !alikeRows(again, view) || !alikeRows(same, view) {
			t.Fatal("told in another way")
		}
	}
}

func callsOfViews(t *testing.T) []call {
	var all []call
	for _, given := range givenToViews(t) {
		for _, c := range viewCalls() {
			all = append(all, func() string { return told(c.name, c.ask(given)) })
		}
	}
	return all
}
