package tests

import (
	"fmt"
	"maps"
	"slices"
	"strconv"
	"strings"
	"testing"

	"loop.example/g00535/impl"
)

// A deed is an event as chapter 14 has it: with its key, and with what its writer knew.
type deed = impl.Event

// The most events that there are in a list.
const mostDeeds = 100

// deedsIn reads events like "c1 a 8 1.0.0" and "a2 a ! 0.1.0".
func deedsIn(texts ...string) []deed {
	var list []deed
	for _, text := range texts {
		words := strings.Split(text, " ")
		e := deed{Dot: dotIn(words[0]), Key: words[1], Dead: words[2] == "!", Ctx: vvIn(words[3])}
		if !e.Dead {
			e.Value, _ = strconv.Atoi(words[2])
		}
		list = append(list, e)
	}
	return list
}

// deedRight asks of an event by itself.
func deedRight(e deed) bool {
	for _, n := range e.Ctx {
		if !between(0, n, 9999) {
			return false
		}
	}
	most := 999
	if e.Dead {
		most = 0
	}
	return isNodeTold(e.Dot.Node) && between(1, e.Dot.N, 9999) && keyForm.MatchString(e.Key) && between(0, e.Value, most)
}

// countTold counts the events of a node.
func countTold(list []deed, node int) int {
	many := 0
	for _, e := range list {
		if e.Dot.Node == node {
			many++
		}
	}
	return many
}

func deedsRight(list []deed) bool {
	if len(list) > mostDeeds {
		return false
	}
	for i, e := range list {
		ahead := list[:i]
		if !deedRight(e) || e.Dot.N != 1+countTold(ahead, e.Dot.Node) {
			return false
		}
		for node, n := range e.Ctx {
			if n > countTold(ahead, node) {
				return false
			}
		}
	}
	return true
}

// What chapter 14 asks of each call.

func overwrittenTold(list []deed, d dot) (bool, int) {
	switch {
	case len(list) > 4096:
		return false, impl.ErrLong
	case !deedsRight(list) || !isNodeTold(d.Node) || !between(1, d.N, 9999):
		return false, impl.ErrBad
	}
	for i, e := range list {
		if e.Dot == d {
			return knownByAnother(list, i), impl.OK
		}
	}
	return false, impl.ErrNone
}

// knownByAnother says that another event of its key knows event i.
func knownByAnother(list []deed, i int) bool {
	e := list[i]
	for k, other := range list {
		if k != i && other.Key == e.Key && other.Ctx[e.Dot.Node] >= e.Dot.N {
			return true
		}
	}
	return false
}

func modelTold(list []deed, key string) (obj, int) {
	switch {
	case len(list) > 4096 || len(key) > 65536:
		return obj{}, impl.ErrLong
	case !deedsRight(list):
		return obj{}, impl.ErrBad
	case !keyForm.MatchString(key):
		return obj{}, impl.ErrKey
	}
	var o obj
	for i, e := range list {
		if e.Key != key {
			continue
		}
		if !knownByAnother(list, i) {
			o.Sibs = append(o.Sibs, sibling{Dot: e.Dot, Value: e.Value, Dead: e.Dead})
		}
		for node, n := range e.Ctx {
			o.Seen[node] = max(o.Seen[node], n)
		}
		o.Seen[e.Dot.Node] = max(o.Seen[e.Dot.Node], e.Dot.N)
	}
	return inOrder(o), impl.OK
}

// keysOfDeeds has each key once, rising.
func keysOfDeeds(list []deed) []string {
	keys := map[string]bool{}
	for _, e := range list {
		keys[e.Key] = true
	}
	return slices.Sorted(maps.Keys(keys))
}

func modelKeysTold(list []deed) ([]string, int) {
	switch {
	case len(list) > 4096:
		return nil, impl.ErrLong
	case !deedsRight(list):
		return nil, impl.ErrBad
	}
	return keysOfDeeds(list), impl.OK
}

func deedTold(e deed) (string, int) {
	if !deedRight(e) {
		return "", impl.ErrBad
	}
	value := fmt.Sprint(e.Value)
	if e.Dead {
		value = "!"
	}
	return fmt.Sprintf("%s %s %s %s", dotTold(e.Dot), e.Key, value, vvTold(e.Ctx)), impl.OK
}

// Each call held against what is asked of it.

func eventsAsTold(t *testing.T, list []deed) bool {
	t.Helper()
	right := deedsRight(list)
	if got := impl.EventsOK(list); got != right {
		t.Fatal("EventsOK", short(list), got)
	}
	return right
}

func overwrittenAsTold(t *testing.T, list []deed, d dot) bool {
	t.Helper()
	want, wantCode := overwrittenTold(list, d)
	got, code := impl.Overwritten(list, d)
	if got != want || code != wantCode {
		t.Fatal("Overwritten", short(list), d, got, code, "not", want, wantCode)
	}
	return got
}

func modelAsTold(t *testing.T, list []deed, key string) obj {
	t.Helper()
	want, wantCode := modelTold(list, key)
	got, code := impl.ModelObj(list, key)
	if !alike(got, want) || code != wantCode {
		t.Fatal("ModelObj", short(list), short(key), short(got), code, "not", short(want), wantCode)
	}
	if !impl.ObjOK(got) {
		t.Fatal("ModelObj", short(list), short(key), "an object that is not right", short(got))
	}
	return got
}

func modelKeysAsTold(t *testing.T, list []deed) []string {
	t.Helper()
	want, wantCode := modelKeysTold(list)
	got, code := impl.ModelKeys(list)
	if !slices.Equal(got, want) || code != wantCode {
		t.Fatal("ModelKeys", short(list), got, code, "not", want, wantCode)
	}
	return got
}

func deedTextAsTold(t *testing.T, e deed) string {
	t.Helper()
	want, wantCode := deedTold(e)
	got, code := impl.EventText(e)
	if got != want || code != wantCode {
		t.Fatal("EventText", short(e), got, code, "not", want, wantCode)
	}
	return got
}

// allAsTold asks all calls of a list: of each of its dots and of the next ones, of each of its keys and of another.
func allAsTold(t *testing.T, list []deed) {
	t.Helper()
	eventsAsTold(t, list)
	modelKeysAsTold(t, list)
	for _, e := range list {
		overwrittenAsTold(t, list, e.Dot)
	}
	for node := range impl.Nodes {
		overwrittenAsTold(t, list, dot{Node: node, N: countTold(list, node) + 1})
	}
	for _, key := range append(keysOfDeeds(list), "other") {
		modelAsTold(t, list, key)
	}
}
