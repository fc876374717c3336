package tests

import (
	"fmt"
	"maps"
	"slices"
	"strconv"
	"strings"
	"testing"

	"loop.example/g00535/impl"
)

type row = impl.Row

// The most rows that there are: four parts of a hundred keys.
const mostRows = 400

// Empty lists and nil are the same.
func alikeRows(a, b []row) bool {
	return slices.EqualFunc(a, b, func(p, q row) bool { return p.Part == q.Part && p.Key == q.Key && slices.Equal(p.Values, q.Values) })
}

func copyOfRows(rows []row) []row {
	rows = slices.Clone(rows)
	for i, r := range rows {
		rows[i].Values = slices.Clone(r.Values)
	}
	return rows
}

// rowsIn reads rows like "1 b 1 5": the part, the key, and its values.
func rowsIn(texts ...string) []row {
	var rows []row
	for _, text := range texts {
		words := strings.Fields(text)
		r := row{Key: words[1]}
		r.Part, _ = strconv.Atoi(words[0])
		for _, word := range words[2:] {
			value, _ := strconv.Atoi(word)
			r.Values = append(r.Values, value)
		}
		rows = append(rows, r)
	}
	return rows
}

// A fact is that a key has a value in a part. What a view tells is a set of these, and nothing more.
type fact struct {
	part  int
	key   string
	value int
}

type facts map[fact]bool

// restByFour takes four away as often as there are.
func restByFour(value int) int {
	for value >= 4 {
		value -= 4
	}
	return value
}

func factsIn(rows []row) facts {
	all := facts{}
	for _, r := range rows {
		for _, value := range r.Values {
			all[fact{r.Part, r.Key, value}] = true
		}
	}
	return all
}

// with has of the key what the object says, and of all others what there was.
func (f facts) with(key string, o obj) facts {
	all := f.of(func(each string) bool { return each != key })
	for _, s := range o.Sibs {
		if !s.Dead {
			all[fact{restByFour(s.Value), key, s.Value}] = true
		}
	}
	return all
}

// of has the facts of some keys alone.
func (f facts) of(wanted func(key string) bool) facts {
	all := facts{}
	for each := range f {
		if wanted(each.key) {
			all[each] = true
		}
	}
	return all
}

func (f facts) rows() []row {
	list := slices.SortedFunc(maps.Keys(f), func(a, b fact) int {
		switch {
		case a.part != b.part:
			return a.part - b.part
		case a.key != b.key:
			return strings.Compare(a.key, b.key)
		}
		return a.value - b.value
	})
	var rows []row
	for i, each := range list {
		if i == 0 || list[i-1].part != each.part || list[i-1].key != each.key {
			rows = append(rows, row{Part: each.part, Key: each.key})
		}
		last := &rows[len(rows)-1]
		last.Values = append(last.Values, each.value)
	}
	return rows
}

// rowsRight: rows that are right tell facts that are right, and just as a set of facts is told.
func rowsRight(rows []row) bool {
	if len(rows) > mostRows {
		return false
	}
	for _, r := range rows {
		if r.Part < 0 || r.Part > 3 || !keyForm.MatchString(r.Key) || len(r.Values) == 0 || len(r.Values) > 100 {
			return false
		}
		for _, value := range r.Values {
			if value < 0 || value > 999 || restByFour(value) != r.Part {
				return false
			}
		}
	}
	return alikeRows(rows, factsIn(rows).rows())
}

// What a node has of each key is worked out from its records.
func objsOf(x node) map[string]obj {
	p, _ := plainOf(x.Id, recordsIn(x))
	return p.objs
}

func factsOf(objs map[string]obj) facts {
	all := facts{}
	for key, o := range objs {
		all = all.with(key, o)
	}
	return all
}

// What chapter 13 asks of each call.

func viewTold(x givenNode) ([]row, int) {
	if !x.right {
		return nil, impl.ErrBad
	}
	return factsOf(objsOf(x.node)).rows(), impl.OK
}

// rowsTold says of rows that a call has made whether there is room for them.
func rowsTold(rows []row) ([]row, int) {
	if len(rows) > mostRows {
		return nil, impl.ErrMany
	}
	return rows, impl.OK
}

func applyKeyTold(rows []row, x givenNode, key string) ([]row, int) {
	switch {
	case len(rows) > 4096 || len(key) > 65536:
		return nil, impl.ErrLong
	case !rowsRight(rows) || !x.right:
		return nil, impl.ErrBad
	case !keyForm.MatchString(key):
		return nil, impl.ErrKey
	}
	return rowsTold(factsIn(rows).with(key, objsOf(x.node)[key]).rows())
}

func entryRight(e entry) bool {
	return isNodeTold(e.Dot.Node) && between(1, e.Dot.N, 9999) && keyForm.MatchString(e.Key)
}

func applyBatchTold(rows []row, x givenNode, list []entry) ([]row, int) {
	switch {
	case len(rows) > 4096 || len(list) > 4096:
		return nil, impl.ErrLong
	case !rowsRight(rows) || !x.right || slices.ContainsFunc(list, func(e entry) bool { return !entryRight(e) }):
		return nil, impl.ErrBad
	}
	keys := map[string]bool{}
	for _, e := range list {
		keys[e.Key] = true
	}
	all, objs := factsIn(rows), objsOf(x.node)
	for key := range keys {
		all = all.with(key, objs[key])
	}
	return rowsTold(all.rows())
}

func partRowsTold(rows []row, part int) ([]row, int) {
	switch {
	case len(rows) > 4096:
		return nil, impl.ErrLong
	case !rowsRight(rows):
		return nil, impl.ErrBad
	case part < 0 || part > 3:
		return nil, impl.ErrRange
	}
	var some []row
	for _, r := range rows {
		if r.Part == part {
			some = append(some, r)
		}
	}
	return some, impl.OK
}

// Rows that are told alike are.
func rowsText(rows []row) string {
	var text strings.Builder
	for _, r := range rows {
		fmt.Fprintf(&text, "%d %q %v\n", r.Part, r.Key, r.Values)
	}
	return text.String()
}

func sameRowsTold(a, b []row) bool {
	return len(a) <= 4096 && len(b) <= 4096 && rowsText(a) == rowsText(b)
}

// Each call held against what is asked of it.

func viewAsTold(t *testing.T, x givenNode) []row {
	t.Helper()
	want, wantCode := viewTold(x)
	got, code := impl.ViewOf(x.node)
	return rowsAsTold(t, got, code, want, wantCode, "ViewOf", short(x))
}

func applyKeyAsTold(t *testing.T, rows []row, x givenNode, key string) []row {
	t.Helper()
	want, wantCode := applyKeyTold(rows, x, key)
	got, code := impl.ApplyKey(rows, x.node, key)
	return rowsAsTold(t, got, code, want, wantCode, "ApplyKey", short(rows), short(x), short(key))
}

func applyBatchAsTold(t *testing.T, rows []row, x givenNode, list []entry) []row {
	t.Helper()
	want, wantCode := applyBatchTold(rows, x, list)
	got, code := impl.ApplyBatch(rows, x.node, list)
	return rowsAsTold(t, got, code, want, wantCode, "ApplyBatch", short(rows), short(x), short(list))
}

func partRowsAsTold(t *testing.T, rows []row, part int) []row {
	t.Helper()
	want, wantCode := partRowsTold(rows, part)
	got, code := impl.PartRows(rows, part)
	return rowsAsTold(t, got, code, want, wantCode, "PartRows", short(rows), part)
}

func rowsAsTold(t *testing.T, got []row, code int, want []row, wantCode int, call ...any) []row {
	t.Helper()
	if !alikeRows(got, want) || code != wantCode {
		t.Fatal(append(call, short(got), code, "not", short(want), wantCode)...)
	}
	if !impl.RowsOK(got) {
		t.Fatal(append(call, "rows that are not right", short(got))...)
	}
	return got
}
