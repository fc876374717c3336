package tests

import (
	"math"
	"slices"
	"strings"
	"testing"

	"loop.example/g00535/impl"
)

func TestViewConstants(t *testing.T) {
	if impl.Parts != 4 || impl.Parts*impl.MaxKeys != mostRows {
		t.Error(impl.Parts, impl.Parts*impl.MaxKeys)
	}
}

// valuesFrom has so many values, each four above the one ahead.
func valuesFrom(first, many int) []int {
	var values []int
	for i := range many {
		values = append(values, first+4*i)
	}
	return values
}

// letters3 is a row of keys that rise, each of three letters.
func letters3(i int) string {
	return string([]byte{'a' + byte(i/676), 'a' + byte(i/26%26), 'a' + byte(i%26)})
}

// rowsOfPart has one row of each of so many keys, with one value.
func rowsOfPart(part, many int) []row {
	var rows []row
	for i := range many {
		rows = append(rows, row{Part: part, Key: letters3(i), Values: []int{part}})
	}
	return rows
}

// rowsOfKeys has rows of all parts of so many keys.
func rowsOfKeys(many int, values func(part int) []int) []row {
	var rows []row
	for part := range 4 {
		for i := range many {
			rows = append(rows, row{Part: part, Key: keyNumber(i), Values: values(part)})
		}
	}
	return rows
}

func oneValue(part int) []int { return []int{996 + part} }

func hundredValues(part int) []int { return valuesFrom(600+part, 100) }

// All values of all rows stand in one list.
func rowsInOneList() []row {
	list := []int{0, 4, 8, 12, 1, 5, 9}
	return []row{{Part: 0, Key: "a", Values: list[:2]}, {Part: 0, Key: "b", Values: list[:4]}, {Part: 0, Key: "c", Values: list[1:4]},
		{Part: 1, Key: "a", Values: list[4:]}, {Part: 1, Key: "b", Values: list[4:]}}
}

func rightRows() [][]row {
	all := [][]row{
		nil, {},
		rowsIn("0 a 0"), rowsIn("1 a 1"), rowsIn("2 a 2"), rowsIn("3 a 3"), rowsIn("0 a 996"), rowsIn("3 zzzzzz 999"),
		rowsIn("0 a 0 4 8 996", "3 a 3 7 999"),
		rowsIn("0 z 0", "1 y 1", "2 x 2", "3 w 3"),
		rowsIn("0 b 0", "1 a 1"),
		rowsIn("1 a 5", "1 aa 1", "1 ab 9", "1 abcdef 1", "1 b 1", "1 zzzzzz 997"),
		rowsIn("1 a 9", "1 b 1 5", "2 b 6"),
		rowsIn("0 b 12", "1 b 1", "2 b 2", "3 b 3"),
		rowsInOneList(),
		rowsOfPart(0, mostRows-1), rowsOfPart(0, mostRows), rowsOfPart(3, mostRows),
		rowsOfKeys(99, oneValue), rowsOfKeys(100, oneValue), rowsOfKeys(100, hundredValues),
	}
	for part := range 4 {
		all = append(all, []row{{Part: part, Key: "k", Values: valuesFrom(part, 99)}}, []row{{Part: part, Key: "k", Values: valuesFrom(part, 100)}},
			[]row{{Part: part, Key: "k", Values: valuesFrom(600+part, 100)}})
	}
	return all
}

// Rows of a part that is none, alone and between right ones; the rest of the value is the part where that can be.
func wrongParts() [][]row {
	all := [][]row{rowsIn("-1 a -1"), rowsIn("-1 a 3"), rowsIn("4 a 4"), rowsIn("4 a 0"), rowsIn("5 a 5"), rowsIn("-4 a 0"), rowsIn("8 a 8")}
	for _, part := range []int{math.MinInt, -1 << 32, -1, 4, 1 << 32, math.MaxInt} {
		for _, values := range [][]int{{0}, {3}, {part}, {0, 4}} {
			wrong := row{Part: part, Key: "b", Values: values}
			all = append(all, []row{wrong}, []row{rowsIn("0 a 0")[0], wrong}, []row{wrong, rowsIn("3 c 3")[0]},
				[]row{rowsIn("0 a 0")[0], wrong, rowsIn("3 c 3")[0]})
		}
	}
	return all
}

func wrongKeysOfRows() [][]row {
	var all [][]row
	for _, key := range slices.Concat(wrongKeys, longKeys) {
		wrong := row{Part: 1, Key: key, Values: []int{1}}
		all = append(all, []row{wrong}, []row{rowsIn("0 a 0")[0], wrong}, []row{wrong, rowsIn("3 c 3")[0]},
			[]row{rowsIn("1 a 1")[0], wrong, rowsIn("1 z 1")[0]})
	}
	return all
}

func wrongOrdersOfRows() [][]row {
	return [][]row{
		rowsIn("0 b 4", "0 a 4"), rowsIn("0 aa 4", "0 a 4"), rowsIn("0 a 0", "0 c 0", "0 b 0"), rowsIn("1 c 1", "1 a 1", "1 b 1"),
		rowsIn("1 a 5", "0 b 4"), rowsIn("1 a 5", "0 a 4"), rowsIn("0 a 0", "2 a 2", "1 a 1"), rowsIn("3 a 3", "2 a 2", "1 a 1", "0 a 0"),
		rowsIn("0 a 0", "1 b 1", "0 c 0"), rowsIn("0 a 0", "3 a 3", "3 b 3", "2 c 2"),
		rowsIn("0 a 0", "0 a 0"), rowsIn("0 a 0", "0 a 4"), rowsIn("0 a 4", "0 a 0"), rowsIn("0 a 0", "0 b 0", "0 a 4"),
		rowsIn("0 a 0", "1 a 1", "1 a 1"), rowsIn("0 a 0", "1 a 1", "0 a 0"), rowsIn("3 z 3", "3 z 7"),
		append(rowsOfPart(2, 50), rowsOfPart(2, 50)...), append(rowsOfPart(2, 50), rowsOfPart(1, 50)...),
		append(rowsOfPart(2, 50), rowsOfPart(2, 50)[49]),
	}
}

func wrongValuesOfRows() [][]row {
	all := [][]row{
		{{Part: 0, Key: "a"}}, {{Part: 0, Key: "a", Values: []int{}}}, {rowsIn("0 a 0")[0], {Part: 1, Key: "b"}},
		{{Part: 0, Key: "a", Values: valuesFrom(0, 101)}}, {{Part: 3, Key: "a", Values: valuesFrom(3, 101)}}, {{Part: 0, Key: "a", Values: valuesFrom(0, 250)}},
		{{Part: 1, Key: "a", Values: valuesFrom(1, 4097)}}, {{Part: 0, Key: "a", Values: make([]int, 5000)}},
		rowsIn("0 a 4 0"), rowsIn("0 a 0 8 4"), rowsIn("0 a 4 0 8"), rowsIn("0 a 4 4"), rowsIn("0 a 0 0"), rowsIn("0 a 0 4 4 8"), rowsIn("0 a 0 4 0"),
		rowsIn("0 a 0 4 8", "0 b 4 0"), rowsIn("0 a 0", "1 b 1 1"),
		rowsIn("0 a 0 1"), rowsIn("0 a 0 2 4"), rowsIn("1 a 0 1"), rowsIn("2 a 1"), rowsIn("3 a 3 998"), rowsIn("0 a 999"), rowsIn("0 a 0", "1 a 4"),
		rowsIn("0 a 1000"), rowsIn("0 a 0 1000"), rowsIn("0 a -4"), rowsIn("0 a -4 0"), rowsIn("1 a -3"), rowsIn("1 a -1 1"), rowsIn("3 a 1003"), rowsIn("1 a 1001"),
		{{Part: 0, Key: "a", Values: append(valuesFrom(604, 99), 1000)}}, {{Part: 0, Key: "a", Values: append([]int{-4}, valuesFrom(0, 99)...)}},
	}
	for part := range 4 {
		for value := range 8 {
			if restByFour(value) != part {
				all = append(all, []row{{Part: part, Key: "a", Values: []int{value}}})
			}
		}
		for _, value := range []int{math.MinInt, math.MinInt + 1, math.MinInt + 2, math.MinInt + 3, math.MaxInt - 3, math.MaxInt - 2, math.MaxInt - 1, math.MaxInt,
			1 << 32, 1<<32 + 1, 1<<32 + 2, 1<<32 + 3} {
			all = append(all, []row{{Part: part, Key: "a", Values: []int{value}}}, []row{{Part: part, Key: "a", Values: []int{part, value}}},
				[]row{{Part: part, Key: "a", Values: []int{value, part + 8}}})
		}
	}
	return all
}

// Rows that are right each, and rise, but too many.
func tooManyRows() [][]row {
	return [][]row{rowsOfPart(0, mostRows+1), rowsOfPart(3, mostRows+1), rowsOfKeys(101, oneValue), append(rowsOfPart(0, 300), rowsOfPart(2, 101)...),
		rowsOfPart(0, impl.MaxList)}
}

// Lists that are too long, whatever they have.
func longRows() [][]row {
	return [][]row{rowsOfPart(0, impl.MaxList+1), make([]row, impl.MaxList+1), make([]row, 2*impl.MaxList)}
}

// Those that are too long are not among them.
func wrongRows() [][]row {
	return slices.Concat(wrongParts(), wrongKeysOfRows(), wrongOrdersOfRows(), wrongValuesOfRows(), tooManyRows(),
		[][]row{make([]row, 1), make([]row, mostRows), make([]row, impl.MaxList)})
}

func TestRowsRightAndWrong(t *testing.T) {
	for i, rows := range rightRows() {
		if !rowsRight(rows) || !impl.RowsOK(rows) {
			t.Error("RowsOK of right rows", i, short(rows))
		}
	}
	for i, rows := range append(wrongRows(), longRows()...) {
		if rowsRight(rows) || impl.RowsOK(rows) {
			t.Error("RowsOK of wrong rows", i, short(rows))
		}
	}
}

// Each list of up to three rows of some parts, keys and values, right and wrong ones.
func TestEachSmallRows(t *testing.T) {
	var each []row
	for part := -1; part <= 4; part++ {
		for _, key := range []string{"a", "b"} {
			each = append(each, row{Part: part, Key: key, Values: []int{max(part, 0)}})
		}
	}
	each = append(each, rowsIn("0 a 0 4", "1 b 5 1", "2 a 2 2", "3 B 3", "3 b 3 7", "1 ab 1", "0 a", "2 b 3")...)
	lists := [][]row{nil}
	for i := 0; i < len(lists); i++ {
		if got := impl.RowsOK(lists[i]); got != rowsRight(lists[i]) {
			t.Fatal("RowsOK", lists[i], got)
		}
		for _, r := range each {
			if len(lists[i]) < 3 {
				lists = append(lists, append(slices.Clone(lists[i]), r))
			}
		}
	}
}

// Each list of up to three values of some.
func TestEachSmallRowOfValues(t *testing.T) {
	some := []int{-5, -4, -1, 0, 1, 2, 3, 4, 5, 8, 995, 996, 999, 1000, 1003}
	lists := [][]int{nil}
	for i := 0; i < len(lists); i++ {
		for part := -1; part <= 4; part++ {
			rows := []row{{Part: part, Key: "key", Values: lists[i]}}
			if got := impl.RowsOK(rows); got != rowsRight(rows) {
				t.Fatal("RowsOK", rows, got)
			}
		}
		for _, value := range some {
			if len(lists[i]) < 3 {
				lists = append(lists, append(slices.Clone(lists[i]), value))
			}
		}
	}
}

// joinsOf has a join of each key, of an object that another node's events made.
func joinsOf(texts ...string) []string {
	var records []string
	for _, text := range texts {
		records = append(records, "join "+text)
	}
	return records
}

// valuesAt is the object of node 2's events that has these values beside each other.
func valuesAt(values ...int) string {
	var o obj
	for i, value := range values {
		o.Sibs = append(o.Sibs, live(2, i+1, value))
	}
	o.Seen[2] = len(values)
	return objTold(o)
}

// viewNode has values of all parts, that come twice, beside tombstones, of all nodes; keys that are dead, and keys that
// have no siblings at all.
func viewNode(t *testing.T, more ...string) node {
	t.Helper()
	return nodeTold(t, 1, 2, slices.Concat(viewRecords, more)...)
}

var viewRecords = []string{
	"join b 2.0.3|a1=5|a2=1|c1=6|c2!|c3=5",
	"put b 2.1.3|a1=5|a2=1|b1=5|c1=6|c2!|c3=5",
	"put a 0.2.0|b2=9",
	"join dead 0.0.2|c1!|c2!",
	"join none 7.0.7",
	"join all 4.0.4|a1=999|a2=0|a3=998|a4=996|c1=4|c2=997|c3=3|c4=0",
	"put ab 0.3.0|b3=2",
	"put gone 0.4.0|b4=2",
	"put gone 0.5.0|b5!",
}

var viewRows = rowsIn("0 all 0 4 996", "1 a 9", "1 all 997", "1 b 1 5", "2 ab 2", "2 all 998", "2 b 6", "3 all 3 999")

func manyAlike(many, value int) []int { return slices.Repeat([]int{value}, many) }

// fallingValues has so many values from 999 down.
func fallingValues(many int) []int {
	var values []int
	for i := range many {
		values = append(values, 999-i)
	}
	return values
}

// fullNode has so many keys, each with values of all parts.
func fullNode(t *testing.T, many int) node {
	t.Helper()
	var records []string
	for i := range many {
		records = append(records, "join "+keyNumber(i)+" "+valuesAt(i, i+1, i+2, i+3, i))
	}
	return nodeTold(t, 1, 9, records...)
}

func viewNodes(t *testing.T) []node {
	t.Helper()
	return append([]node{
		{Id: 0}, {Id: 2},
		viewNode(t), viewNode(t, "cut 4"), viewNode(t, "put b 2.6.3|b6=12"), viewNode(t, "put a 0.6.0|b6!"),
		sureTold(t, 1, joinsOf("k "+valuesAt(manyAlike(100, 7)...))...),
		sureTold(t, 1, joinsOf("k "+valuesAt(fallingValues(100)...))...),
		sureTold(t, 1, joinsOf("k "+valuesAt(valuesFrom(600, 100)...), "l "+valuesAt(valuesFrom(3, 100)...))...),
		sureTold(t, 0, siblingsOf("k", impl.MaxSibs)...),
		fullNode(t, 99), fullNode(t, 100),
	}, feedNodes(t)[3:12]...)
}

func TestViewByHand(t *testing.T) {
	rows, code := impl.ViewOf(viewNode(t))
	if !alikeRows(rows, viewRows) || code != impl.OK {
		t.Error("ViewOf", rows, code)
	}
	for _, c := range []struct {
		object string
		want   []row
	}{
		{"0.0.0|", nil},
		{"7.0.7", nil},
		{"0.0.1|c1!", nil},
		{"0.0.3|c1!|c2!|c3!", nil},
		{"0.0.1|c1=0", rowsIn("0 k 0")},
		{"0.0.1|c1=999", rowsIn("3 k 999")},
		{"0.0.2|c1!|c2=0", rowsIn("0 k 0")}, // a tombstone's value is none
		{"0.0.2|c1=0|c2!", rowsIn("0 k 0")},
		{"0.0.2|c1=5|c2=5", rowsIn("1 k 5")},
		{"1.0.1|a1=5|c1=5", rowsIn("1 k 5")},
		{"1.0.3|a1=5|c1=1|c2=5|c3=1", rowsIn("1 k 1 5")},
		{"0.0.3|c1=5|c2=9|c3=5", rowsIn("1 k 5 9")},
		{"0.0.3|c1=5|c2!|c3=5", rowsIn("1 k 5")},
		{"0.0.3|c1=9|c2=5|c3=1", rowsIn("1 k 1 5 9")},
		{"0.0.4|c1=3|c2=2|c3=1|c4=0", rowsIn("0 k 0", "1 k 1", "2 k 2", "3 k 3")},
		{"0.0.6|c1=7|c2=3|c3=6|c4=7|c5=2|c6=3", rowsIn("2 k 2 6", "3 k 3 7")},
		{"0.0.2|c1=10|c2=2", rowsIn("2 k 2 10")}, // by numbers, not by texts
		{"0.0.2|c1=100|c2=20", rowsIn("0 k 20 100")},
	} {
		x := sureTold(t, 1)
		if !strings.HasSuffix(c.object, "|") {
			x = sureTold(t, 1, "join k "+c.object)
		}
		if rows, code := impl.ViewOf(x); !alikeRows(rows, c.want) || code != impl.OK {
			t.Error("ViewOf", c.object, rows, code)
		}
		if rows, code := impl.ApplyKey(nil, x, "k"); !alikeRows(rows, c.want) || code != impl.OK {
			t.Error("ApplyKey", c.object, rows, code)
		}
		if rows, code := impl.ApplyBatch(nil, x, entriesOf(1, 1, "k")); !alikeRows(rows, c.want) || code != impl.OK {
			t.Error("ApplyBatch", c.object, rows, code)
		}
	}
}

// Each value by itself is in one part, alone.
func TestEachValueInItsPart(t *testing.T) {
	for value := 0; value <= impl.MaxValue; value++ {
		want := []row{{Part: value % 4, Key: "k", Values: []int{value}}}
		if rows, code := impl.ViewOf(sureTold(t, 1, "join k "+valuesAt(value))); !alikeRows(rows, want) || code != impl.OK {
			t.Fatal("ViewOf", value, rows, code)
		}
	}
}

// All values at once, ten keys with a hundred each; and each object of four siblings of some values, dead ones among them.
func TestManyValues(t *testing.T) {
	var records []string
	for i := range 10 {
		values := fallingValues(1000)[100*i : 100*i+100]
		records = append(records, "join "+keyNumber(i)+" "+valuesAt(values...))
	}
	rows := viewAsTold(t, givenNode{sureTold(t, 1, records...), true})
	if len(rows) != 40 || len(factsIn(rows)) != 1000 {
		t.Error("ViewOf", len(rows), len(factsIn(rows)))
	}
	some := []int{-1, 0, 2, 4, 5} // -1 is dead
	for n := range 625 {
		o := obj{Seen: vv{2, 0, 2}}
		for i, rest := 0, n; i < 4; i, rest = i+1, rest/5 {
			s := live(i/2*2, i%2+1, some[rest%5])
			if s.Value < 0 {
				s = tomb(s.Dot.Node, s.Dot.N)
			}
			o.Sibs = append(o.Sibs, s)
		}
		viewAsTold(t, givenNode{sureTold(t, 1, "join k "+objTold(o)), true})
	}
}

func TestEachView(t *testing.T) {
	for _, x := range slices.Concat(rightOnes(viewNodes(t)...), rightOnes(rightNodes(t)...), wrongOnes(wrongNodes(t)...)) {
		viewAsTold(t, x)
	}
	if rows, code := impl.ViewOf(fullNode(t, 100)); len(rows) != mostRows || code != impl.OK {
		t.Error("ViewOf as many as there may be", len(rows), code)
	}
}

func TestApplyKeyByHand(t *testing.T) {
	x := viewNode(t)
	for _, c := range []struct {
		rows []row
		key  string
		want []row
		code int
	}{
		{nil, "b", rowsIn("1 b 1 5", "2 b 6"), impl.OK},
		{[]row{}, "b", rowsIn("1 b 1 5", "2 b 6"), impl.OK},
		{nil, "a", rowsIn("1 a 9"), impl.OK},
		{nil, "all", rowsIn("0 all 0 4 996", "1 all 997", "2 all 998", "3 all 3 999"), impl.OK},
		// keys of which nothing is alive, or that the node has not: no rows
		{nil, "dead", nil, impl.OK}, {nil, "none", nil, impl.OK}, {nil, "gone", nil, impl.OK}, {nil, "c", nil, impl.OK}, {nil, "zzzzzz", nil, impl.OK},
		{rowsIn("0 dead 0", "1 b 1", "2 dead 2"), "dead", rowsIn("1 b 1"), impl.OK},
		{rowsIn("0 none 0", "1 b 1", "2 none 2"), "none", rowsIn("1 b 1"), impl.OK},
		{rowsIn("0 gone 0"), "gone", nil, impl.OK},
		{rowsIn("0 c 0", "1 c 1", "2 c 2", "3 c 3"), "c", nil, impl.OK},
		{rowsIn("0 b 0", "0 c 0", "1 c 1", "3 c 3", "3 d 3"), "c", rowsIn("0 b 0", "3 d 3"), impl.OK},
		{rowsIn("1 b 1"), "c", rowsIn("1 b 1"), impl.OK},
		// what the key had goes, from all its parts, whether it is right or not
		{rowsIn("1 b 1 5", "2 b 6"), "b", rowsIn("1 b 1 5", "2 b 6"), impl.OK},
		{rowsIn("0 b 0 4", "1 b 1 5 9", "2 b 2", "3 b 3"), "b", rowsIn("1 b 1 5", "2 b 6"), impl.OK},
		{rowsIn("1 b 5"), "b", rowsIn("1 b 1 5", "2 b 6"), impl.OK},
		{rowsIn("3 b 3"), "b", rowsIn("1 b 1 5", "2 b 6"), impl.OK},
		// the others stay, right or not: those ahead, behind, and of keys that begin alike
		{rowsIn("0 c 0", "1 a 1", "1 bb 5", "2 aa 2", "2 z 2", "3 a 3"), "b", rowsIn("0 c 0", "1 a 1", "1 b 1 5", "1 bb 5", "2 aa 2", "2 b 6", "2 z 2", "3 a 3"), impl.OK},
		{rowsIn("0 a 0", "0 ab 0", "0 abc 0"), "ab", rowsIn("0 a 0", "0 abc 0", "2 ab 2"), impl.OK},
		// no key
		{nil, "", nil, impl.ErrKey}, {nil, "B", nil, impl.ErrKey}, {nil, "sevenaa", nil, impl.ErrKey}, {rowsIn("1 b 1"), "b ", nil, impl.ErrKey},
		{rowsIn("1 b 1"), longKeys[0][1:], nil, impl.ErrKey},
		{rowsIn("1 b 1"), longKeys[0], nil, impl.ErrLong},
	} {
		rows, code := impl.ApplyKey(c.rows, x, c.key)
		if !alikeRows(rows, c.want) || code != c.code {
			t.Error("ApplyKey", c.rows, short(c.key), rows, code, "not", c.want, c.code)
		}
	}
}

// staleRows has rows of some of the node's keys and of some that it has not, most of which say something else than it.
func staleRows(x node) [][]row {
	all := [][]row{nil, rowsOfKeys(3, oneValue)}
	keys := keysTold(x)
	if len(keys) == 0 {
		return all
	}
	first, last := keys[0], keys[len(keys)-1]
	view := factsOf(objsOf(x)).rows()
	return append(all, view,
		[]row{{Part: 0, Key: first, Values: []int{0, 4}}, {Part: 3, Key: first, Values: []int{999}}},
		factsIn(view).with(last, objIn(valuesAt(1, 2, 3))).rows(),
		factsIn(view).of(func(key string) bool { return key != first }).rows(),
		factsIn(view).with("new", objIn(valuesAt(0, 0, 1))).rows()[:min(mostRows, len(view)+2)])
}

func TestEachApplyKey(t *testing.T) {
	for _, x := range append(viewNodes(t), rightNodes(t)...) {
		for _, rows := range staleRows(x) {
			keys := append(keysTold(x), "a", "none", "zzzzzz", "", "B")
			for i, key := range keys {
				if i < 3 || i >= len(keys)-6 {
					applyKeyAsTold(t, rows, givenNode{x, true}, key)
				}
			}
		}
	}
}

func TestApplyKeyToEachRows(t *testing.T) {
	x := givenNode{viewNode(t), true}
	for _, rows := range slices.Concat(rightRows(), wrongRows(), longRows()) {
		for _, key := range []string{"b", "all", "dead", "aa", "k", "zzzzzz", "", longKeys[0]} {
			applyKeyAsTold(t, rows, x, key)
		}
	}
}

func TestApplyKeyWithWrongKeys(t *testing.T) {
	for _, x := range []givenNode{{viewNode(t), true}, {node{Id: 1}, true}, {node{Count: 1}, false}} {
		for _, rows := range [][]row{nil, viewRows, rowsOfPart(0, mostRows), rowsIn("4 a 4"), longRows()[0]} {
			for _, key := range slices.Concat(wrongKeys, longKeys, rightKeys, []string{longKeys[0][1:]}) {
				applyKeyAsTold(t, rows, x, key)
			}
		}
	}
}

// Rows without room for one more, with room for one, and for two: what the key had makes room, and beside ErrMany there
// are no rows.
func TestApplyKeyWithoutRoom(t *testing.T) {
	x := sureTold(t, 1, joinsOf("one "+valuesAt(4, 8), "two "+valuesAt(1, 2), "three "+valuesAt(1, 2, 3), "four "+valuesAt(3, 2, 1, 0), "dead 0.0.1|c1!")...)
	of := func(many int, texts ...string) []row {
		return factsIn(append(rowsOfPart(2, many-len(texts)), rowsIn(texts...)...)).rows()
	}
	for _, c := range []struct {
		rows []row
		key  string
		many int // rows then
		code int
	}{
		{of(400), "one", 0, impl.ErrMany},
		{of(400), "four", 0, impl.ErrMany},
		{of(400), "dead", 400, impl.OK},
		{of(400), "none", 400, impl.OK},
		{of(400), "aaa", 399, impl.OK}, // a key that is in the rows, but not in the node
		{of(399), "one", 400, impl.OK},
		{of(399), "two", 0, impl.ErrMany},
		{of(398), "two", 400, impl.OK},
		{of(398), "three", 0, impl.ErrMany},
		{of(397), "three", 400, impl.OK},
		{of(396), "four", 400, impl.OK},
		{of(397), "four", 0, impl.ErrMany},
		{of(400, "0 one 0"), "one", 400, impl.OK},
		{of(400, "3 one 3"), "one", 400, impl.OK}, // from one part into another
		{of(400, "0 one 0", "1 one 1"), "one", 399, impl.OK},
		{of(400, "0 two 0"), "two", 0, impl.ErrMany},
		{of(400, "0 two 0", "3 two 3"), "two", 400, impl.OK},
		{of(400, "0 two 0", "3 two 3"), "three", 0, impl.ErrMany},
		{of(400, "0 three 0", "1 three 1"), "three", 0, impl.ErrMany},
		{of(399, "0 three 0", "1 three 1"), "three", 400, impl.OK},
		{of(400, "0 four 0", "1 four 1", "3 four 3"), "four", 0, impl.ErrMany},
		{of(400, "0 four 0", "1 four 1", "2 four 2", "3 four 3"), "four", 400, impl.OK},
		{of(400, "0 dead 0", "1 dead 1"), "dead", 398, impl.OK},
		{of(400), "One", 0, impl.ErrKey}, // the key is asked ahead of the room
	} {
		rows := applyKeyAsTold(t, c.rows, givenNode{x, true}, c.key)
		if _, code := impl.ApplyKey(c.rows, x, c.key); len(rows) != c.many || code != c.code {
			t.Error("ApplyKey", len(c.rows), c.key, len(rows), code, "not", c.many, c.code)
		}
		list := entriesOf(1, 1, c.key)
		batch := applyBatchAsTold(t, c.rows, givenNode{x, true}, list)
		if !alikeRows(batch, rows) {
			t.Error("ApplyBatch", len(c.rows), c.key, len(batch))
		}
	}
}

func TestApplyBatchByHand(t *testing.T) {
	x := viewNode(t)
	b, a, all := rowsIn("1 b 1 5", "2 b 6"), rowsIn("1 a 9"), rowsIn("0 all 0 4 996", "1 all 997", "2 all 998", "3 all 3 999")
	both := rowsIn("1 a 9", "1 b 1 5", "2 b 6")
	for _, c := range []struct {
		rows []row
		keys []string
		want []row
	}{
		{nil, nil, nil},
		{[]row{}, nil, nil},
		{b, nil, b}, // nothing to do: as they were
		{viewRows, nil, viewRows},
		{nil, []string{"b"}, b},
		{nil, []string{"a"}, a},
		{nil, []string{"all"}, all},
		{nil, []string{"b", "a"}, both},
		{nil, []string{"a", "b"}, both},
		{nil, []string{"b", "b"}, b},
		{nil, []string{"b", "a", "b", "b", "a"}, both},
		{nil, []string{"dead", "none", "gone", "zzzzzz"}, nil},
		{b, []string{"a"}, both},
		{a, []string{"b", "b"}, both},
		{rowsIn("0 b 0", "3 a 3"), []string{"a", "b"}, both},
		{rowsIn("0 b 0", "3 a 3"), []string{"a"}, rowsIn("0 b 0", "1 a 9")},
		{rowsIn("0 c 0", "1 dead 1", "2 gone 2", "3 d 3"), []string{"dead", "gone", "c"}, rowsIn("3 d 3")},
		{nil, []string{"gone", "ab", "all", "a", "b", "gone", "dead"}, viewRows},
	} {
		rows, code := impl.ApplyBatch(c.rows, x, entriesOf(1, 1, c.keys...))
		if !alikeRows(rows, c.want) || code != impl.OK {
			t.Error("ApplyBatch", c.rows, c.keys, rows, code, "not", c.want)
		}
	}
	// the feed: it has no keys that were joined alone
	if rows, code := impl.ApplyBatch(nil, x, x.Feed); !alikeRows(rows, rowsIn("1 a 9", "1 b 1 5", "2 ab 2", "2 b 6")) || code != impl.OK {
		t.Error("ApplyBatch of the feed", rows, code)
	}
	// whose event an entry is, and which one, has no part in it
	for _, d := range rightDots() {
		if rows, code := impl.ApplyBatch(nil, x, []entry{{Dot: d, Key: "b"}, {Dot: d, Key: "a"}}); !alikeRows(rows, both) || code != impl.OK {
			t.Error("ApplyBatch", d, rows, code)
		}
	}
}

func wrongEntries() []entry {
	all := []entry{{}, {Key: "a"}, {Dot: dot{Node: 1, N: 1}}}
	for _, d := range wrongDots {
		all = append(all, entry{Dot: d, Key: "a"}, entry{Dot: d, Key: ""})
	}
	for _, key := range slices.Concat(wrongKeys, longKeys) {
		all = append(all, entry{Dot: dot{Node: 1, N: 1}, Key: key})
	}
	return all
}

// Each wrong entry alone, first, in the midst, and last: nothing of the batch is done.
func TestWrongEntriesAreBad(t *testing.T) {
	x := givenNode{viewNode(t), true}
	some := entriesOf(1, 1, "b", "a", "c")
	for _, e := range wrongEntries() {
		for at := range 4 {
			list := slices.Insert(slices.Clone(some), at, e)
			for _, rows := range [][]row{nil, viewRows, rowsOfPart(0, mostRows)} { // of rows without room ahead of ErrMany
				if got, code := impl.ApplyBatch(rows, x.node, list); len(got) > 0 || code != impl.ErrBad {
					t.Fatal("ApplyBatch", short(list), short(got), code)
				}
				applyBatchAsTold(t, rows, x, list)
			}
		}
		applyBatchAsTold(t, nil, x, []entry{e})
	}
}

func TestEachApplyBatch(t *testing.T) {
	for i, x := range append(viewNodes(t), rightNodes(t)...) {
		h := history{state: uint32(i)}
		for _, rows := range staleRows(x) {
			keys := append(keysTold(x), "a", "none", "zzzzzz", "aa")
			for _, many := range []int{0, 1, 2, 5, 150} {
				var list []entry
				for range many {
					list = append(list, entriesOf(h.draw(3), 1+h.draw(9999), keys[h.draw(len(keys))])...)
				}
				applyBatchAsTold(t, rows, givenNode{x, true}, list)
			}
			applyBatchAsTold(t, rows, givenNode{x, true}, x.Feed)
		}
	}
}

func TestApplyBatchToEachRows(t *testing.T) {
	x := givenNode{viewNode(t), true}
	for _, rows := range slices.Concat(rightRows(), wrongRows(), longRows()) {
		for _, list := range [][]entry{nil, {}, entriesOf(1, 1, "b", "all", "dead", "aa", "k"), entriesOf(1, 1, "zzzzzz"), make([]entry, 1)} {
			applyBatchAsTold(t, rows, x, list)
		}
	}
}

// Batches of as many entries as there may be, and of one more.
func TestLongBatches(t *testing.T) {
	x := givenNode{viewNode(t), true}
	keys := append(keysTold(x.node), "c", "d")
	var all []string
	for i := range impl.MaxList + 1 {
		all = append(all, keys[i%len(keys)])
	}
	list := entriesOf(1, 1, all...)
	wrong := slices.Clone(list[:impl.MaxList])
	wrong[impl.MaxList-1].Key = ""
	for _, rows := range [][]row{nil, viewRows, rowsOfPart(3, mostRows), rowsIn("0 c 0", "3 d 3"), rowsIn("4 a 4"), longRows()[0]} {
		for _, each := range [][]entry{list[:impl.MaxList-1], list[:impl.MaxList], list, wrong, make([]entry, impl.MaxList), make([]entry, impl.MaxList+1)} {
			applyBatchAsTold(t, rows, x, each)
			applyBatchAsTold(t, rows, givenNode{node{Count: 1}, false}, each)
		}
	}
	if got, code := impl.ApplyBatch(nil, x.node, list[:impl.MaxList]); !alikeRows(got, viewRows) || code != impl.OK {
		t.Error("ApplyBatch of MaxList entries", short(got), code)
	}
	if got, code := impl.ApplyBatch(nil, x.node, list); len(got) > 0 || code != impl.ErrLong {
		t.Error("ApplyBatch of one more", short(got), code)
	}
}

// What a batch makes is asked for room when all of it is done: a key that goes makes room for one that comes, whichever
// of them stands first.
func TestBatchesWithoutRoom(t *testing.T) {
	x := sureTold(t, 1, joinsOf("one "+valuesAt(4, 8), "two "+valuesAt(1, 2), "four "+valuesAt(3, 2, 1, 0))...)
	for _, c := range []struct {
		many int
		keys []string
		want int
		code int
	}{
		{400, []string{"one"}, 0, impl.ErrMany},
		{400, []string{"none", "one"}, 0, impl.ErrMany},
		{400, []string{"one", "none"}, 0, impl.ErrMany},
		{400, []string{"aaa", "one"}, 400, impl.OK},
		{400, []string{"one", "aaa"}, 400, impl.OK},
		{400, []string{"one", "aaa", "one"}, 400, impl.OK},
		{400, []string{"two", "aaa"}, 0, impl.ErrMany},
		{400, []string{"aaa", "two"}, 0, impl.ErrMany},
		{400, []string{"aaa", "two", "aab"}, 400, impl.OK},
		{400, []string{"two", "one", "aaa", "aab", "aac"}, 400, impl.OK},
		{400, []string{"two", "one", "aaa", "aab"}, 0, impl.ErrMany},
		{398, []string{"one", "two"}, 0, impl.ErrMany},
		{397, []string{"two", "one"}, 400, impl.OK},
		{393, []string{"two", "one", "four"}, 400, impl.OK},
		{394, []string{"four", "two", "one"}, 0, impl.ErrMany},
	} {
		rows, list := rowsOfPart(2, c.many), entriesOf(1, 1, c.keys...)
		got := applyBatchAsTold(t, rows, givenNode{x, true}, list)
		if _, code := impl.ApplyBatch(rows, x, list); len(got) != c.want || code != c.code {
			t.Error("ApplyBatch", c, len(got), code)
		}
	}
}

func TestPartRowsByHand(t *testing.T) {
	for part, want := range [][]row{rowsIn("0 all 0 4 996"), rowsIn("1 a 9", "1 all 997", "1 b 1 5"), rowsIn("2 ab 2", "2 all 998", "2 b 6"), rowsIn("3 all 3 999")} {
		if got, code := impl.PartRows(viewRows, part); !alikeRows(got, want) || code != impl.OK {
			t.Error("PartRows", part, got, code)
		}
		for _, rows := range [][]row{nil, {}} {
			if got, code := impl.PartRows(rows, part); len(got) > 0 || code != impl.OK {
				t.Error("PartRows of none", part, got, code)
			}
		}
	}
	if got, code := impl.PartRows(rowsIn("1 b 1"), 0); len(got) > 0 || code != impl.OK {
		t.Error("PartRows of a part that has none", got, code)
	}
	for _, rows := range [][]row{nil, viewRows} {
		for _, part := range []int{math.MinInt, -1 << 32, -4, -1, 4, 5, 1 << 32, math.MaxInt} {
			if got, code := impl.PartRows(rows, part); len(got) > 0 || code != impl.ErrRange {
				t.Error("PartRows", part, got, code)
			}
		}
	}
}

func TestEachPartRows(t *testing.T) {
	for _, rows := range slices.Concat(rightRows(), wrongRows(), longRows()) {
		for _, part := range []int{math.MinInt, -1 << 32, -4, -1, 0, 1, 2, 3, 4, 5, 1 << 32, math.MaxInt} {
			partRowsAsTold(t, rows, part)
		}
	}
}

// The parts of a view, one behind the other, are the view.
func TestAllPartsAreTheView(t *testing.T) {
	for i, x := range append(viewNodes(t), rightNodes(t)...) {
		rows, code := impl.ViewOf(x)
		if code != impl.OK {
			t.Fatal("ViewOf", i, code)
		}
		var all []row
		for part := range impl.Parts {
			some, code := impl.PartRows(rows, part)
			if code != impl.OK {
				t.Fatal("PartRows", i, part, code)
			}
			all = append(all, some...)
		}
		if !alikeRows(all, rows) {
			t.Fatal("parts", i, short(all), "not", short(rows))
		}
	}
}

// rowsNextTo has lists of rows that differ from the given ones in one thing each.
func rowsNextTo(rows []row) [][]row {
	var all [][]row
	one := func(change func(rows []row) []row) { all = append(all, change(copyOfRows(rows))) }
	for i := range rows {
		for _, more := range []int{-1, 1, 4, 1 << 32, math.MinInt} {
			one(func(rows []row) []row { rows[i].Part += more; return rows })
		}
		one(func(rows []row) []row { rows[i].Key += "a"; return rows })
		one(func(rows []row) []row { rows[i].Key = ""; return rows })
		one(func(rows []row) []row { rows[i].Key = strings.ToUpper(rows[i].Key); return rows })
		one(func(rows []row) []row { rows[i].Values = append(rows[i].Values, 999); return rows })
		one(func(rows []row) []row { rows[i].Values = append([]int{0}, rows[i].Values...); return rows })
		one(func(rows []row) []row { rows[i].Values = rows[i].Values[1:]; return rows })
		one(func(rows []row) []row { rows[i].Values = rows[i].Values[:len(rows[i].Values)-1]; return rows })
		for k := range rows[i].Values {
			for _, more := range []int{-4, 1, 4, 1 << 32, math.MinInt} {
				one(func(rows []row) []row { rows[i].Values[k] += more; return rows })
			}
		}
		one(func(rows []row) []row { return slices.Delete(rows, i, i+1) })
		one(func(rows []row) []row { return slices.Insert(rows, i, rows[i]) })
		one(func(rows []row) []row { return slices.Insert(rows, i, row{}) })
	}
	one(func(rows []row) []row { return append(rows, row{}) })
	one(func(rows []row) []row { return append(rows, rowsIn("3 zzzzzz 999")...) })
	return all
}

func sameAsTold(t *testing.T, a, b []row, want bool) {
	t.Helper()
	if sameRowsTold(a, b) != want {
		t.Fatal("another answer is asked for", short(a), short(b), want)
	}
	if impl.SameRows(a, b) != want || impl.SameRows(b, a) != want {
		t.Fatal("SameRows", short(a), short(b), !want)
	}
}

func TestSameRows(t *testing.T) {
	for _, rows := range [][]row{nil, viewRows, rowsIn("0 a 0"), rowsIn("0 k 0", "1 k 1 5", "3 k 3"), rowsInOneList()} {
		sameAsTold(t, rows, rows, true)
		sameAsTold(t, rows, copyOfRows(rows), true)
		for _, other := range rowsNextTo(rows) {
			sameAsTold(t, rows, other, false)
			sameAsTold(t, other, copyOfRows(other), true) // though most of these are not right
		}
	}
	sameAsTold(t, nil, []row{}, true)
	sameAsTold(t, []row{{Key: "a"}}, []row{{Key: "a", Values: []int{}}}, true)
	sameAsTold(t, rowsIn("0 a 0", "1 b 1"), rowsIn("1 b 1", "0 a 0"), false)
	sameAsTold(t, rowsIn("1 a 1 5"), rowsIn("1 a 5 1"), false)
	sameAsTold(t, rowsIn("1 a 1 5", "1 b 9"), rowsIn("1 a 1", "1 b 5 9"), false)
}

func TestSameRowsOfAllKinds(t *testing.T) {
	all := slices.Concat(rightRows()[:14], wrongRows()[:60], wrongOrdersOfRows(), wrongValuesOfRows()[:20])
	for _, a := range all {
		for _, b := range all {
			sameAsTold(t, a, b, alikeRows(a, b))
		}
	}
}

// Lists that are too long are like nothing, not even themselves; values and keys of rows may be of any length.
func TestSameRowsOfLongLists(t *testing.T) {
	most := rowsOfPart(0, impl.MaxList)
	sameAsTold(t, most, copyOfRows(most), true)
	sameAsTold(t, most, most[1:], false)
	last := copyOfRows(most)
	last[impl.MaxList-1].Values[0]++
	sameAsTold(t, most, last, false)
	for _, rows := range longRows() {
		sameAsTold(t, rows, rows, false)
		sameAsTold(t, rows, copyOfRows(rows), false)
		sameAsTold(t, rows, rows[:impl.MaxList], false)
		sameAsTold(t, rows, nil, false)
	}
	values := valuesFrom(0, 5*impl.MaxList)
	long := []row{{Key: longKeys[1], Values: values}}
	sameAsTold(t, long, copyOfRows(long), true)
	sameAsTold(t, long, []row{{Key: longKeys[1], Values: values[1:]}}, false)
	sameAsTold(t, long, []row{{Key: longKeys[1][1:], Values: values}}, false)
}

// Which code is told ahead of which: what is long, what is bad, then what is no key, no part, and has no room; beside
// each of them there are no rows.
func TestOrderOfCodesOfViews(t *testing.T) {
	right, full := viewNode(t), rowsOfPart(0, mostRows)
	wrong := copyOfNode(right)
	wrong.Count++
	bad, long := rowsIn("0 b 0", "0 a 0"), longRows()[1]
	none, some, longList := []entry{{}}, entriesOf(1, 1, "b"), make([]entry, impl.MaxList+1)
	for i, c := range []struct {
		rows []row
		x    node
		key  string
		list []entry
		code int // of ApplyKey
		then int // of ApplyBatch
	}{
		{long, wrong, longKeys[0], longList, impl.ErrLong, impl.ErrLong},
		{long, wrong, "B", none, impl.ErrLong, impl.ErrLong},
		{long, right, "b", some, impl.ErrLong, impl.ErrLong},
		{bad, wrong, longKeys[0], longList, impl.ErrLong, impl.ErrLong},
		{nil, wrong, longKeys[0], longList, impl.ErrLong, impl.ErrLong},
		{full, right, longKeys[0], longList, impl.ErrLong, impl.ErrLong},
		{nil, right, longKeys[0], longList, impl.ErrLong, impl.ErrLong},
		{bad, right, "B", none, impl.ErrBad, impl.ErrBad},
		{bad, right, "b", some, impl.ErrBad, impl.ErrBad},
		{bad, right, "b", nil, impl.ErrBad, impl.ErrBad},
		{nil, wrong, "B", none, impl.ErrBad, impl.ErrBad},
		{nil, wrong, "b", some, impl.ErrBad, impl.ErrBad},
		{nil, wrong, "b", nil, impl.ErrBad, impl.ErrBad},
		{full, wrong, "b", some, impl.ErrBad, impl.ErrBad},
		{full, right, "B", none, impl.ErrKey, impl.ErrBad},
		{nil, right, "B", none, impl.ErrKey, impl.ErrBad},
		{full, right, "b", some, impl.ErrMany, impl.ErrMany},
	} {
		if rows, code := impl.ApplyKey(c.rows, c.x, c.key); len(rows) > 0 || code != c.code {
			t.Error("ApplyKey", i, rows, code, "not", c.code)
		}
		if rows, code := impl.ApplyBatch(c.rows, c.x, c.list); len(rows) > 0 || code != c.then {
			t.Error("ApplyBatch", i, rows, code, "not", c.then)
		}
	}
	for part := -1; part <= 4; part += 5 {
		if rows, code := impl.PartRows(long, part); len(rows) > 0 || code != impl.ErrLong {
			t.Error("PartRows", rows, code)
		}
		if rows, code := impl.PartRows(bad, part); len(rows) > 0 || code != impl.ErrBad {
			t.Error("PartRows", rows, code)
		}
	}
}

// Of each node that is not right there is no view, whatever is asked of it.
func TestViewsOfWrongNodes(t *testing.T) {
	for i, x := range wrongNodes(t) {
		for k, rows := range [][]row{nil, viewRows, rowsOfPart(0, mostRows)} {
			if (i+k)%3 > 0 {
				continue
			}
			for _, key := range []string{"b", "none", "B"} {
				if got, code := impl.ApplyKey(rows, x, key); len(got) > 0 || code != impl.ErrBad {
					t.Fatal("ApplyKey", i, key, got, code)
				}
				if got, code := impl.ApplyBatch(rows, x, entriesOf(1, 1, key)); len(got) > 0 || code != impl.ErrBad {
					t.Fatal("ApplyBatch", i, key, got, code)
				}
			}
			if got, code := impl.ApplyBatch(rows, x, nil); len(got) > 0 || code != impl.ErrBad {
				t.Fatal("ApplyBatch of nothing", i, got, code)
			}
		}
	}
}
