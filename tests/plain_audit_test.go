package tests

import (
	"fmt"
	"regexp"
	"slices"
	"strings"
	"testing"

	"loop.example/g00535/impl"
)

// What chapter 16 asks of each call, worked out from a plain world, from records, and by patterns.

// What the four audits say: whether all is bounded, whether it settles, whether the stream and the view are true.
type verdict struct{ bounded, settled, stream, view bool }

var allTrue = verdict{true, true, true, true}

// modelOf is what all events of the plain world make of a key.
func (w plainWorld) modelOf(key string) obj {
	o, _ := modelTold(w.deeds, key)
	return o
}

func (w plainWorld) boundedTold() bool {
	for _, x := range w.nodes {
		for key, o := range x.objs {
			if !coversTold(w.modelOf(key), o) {
				return false
			}
		}
	}
	return true
}

func (w plainWorld) settledTold(t *testing.T) bool {
	t.Helper()
	after := w.settled(t)
	for _, key := range keysOfDeeds(w.deeds) {
		owners := ownersTold(key)
		for _, owner := range owners[:2] {
			if !alike(after.nodes[owner].objs[key], w.modelOf(key)) {
				return false
			}
		}
	}
	return true
}

func streamTold(w world) bool {
	for i, d := range w.Group.Stream {
		if slices.Contains(w.Group.Stream[:i], d) || !slices.ContainsFunc(w.Events, func(e deed) bool { return e.Dot == d }) {
			return false
		}
	}
	return true
}

// viewTrueTold takes the values of all events that are not dead as one set, and asks of each row's values for them there.
func viewTrueTold(w world) bool {
	all := facts{}
	for _, e := range w.Events {
		if !e.Dead {
			all[fact{restByFour(e.Value), e.Key, e.Value}] = true
		}
	}
	for each := range factsIn(w.Rows) {
		if !all[each] {
			return false
		}
	}
	return true
}

func (w plainWorld) verdictTold(t *testing.T) verdict {
	t.Helper()
	return verdict{w.boundedTold(), w.settledTold(t), streamTold(w.world()), viewTrueTold(w.world())}
}

// auditsOf asks all four, each of which must have that code.
func auditsOf(t *testing.T, w world, want int) verdict {
	t.Helper()
	bounded, code := impl.Bounded(w)
	settled, settledCode := impl.Settled(w)
	stream, streamCode := impl.StreamTrue(w)
	view, viewCode := impl.ViewTrue(w)
	if code != want || settledCode != want || streamCode != want || viewCode != want {
		t.Fatal("audits", code, settledCode, streamCode, viewCode, "not", want, short(w))
	}
	return verdict{bounded, settled, stream, view}
}

func (w plainWorld) auditsAsTold(t *testing.T) verdict {
	t.Helper()
	given := w.world()
	if !impl.WorldOK(given) {
		t.Fatal("a world that is not right", short(given))
	}
	want := w.verdictTold(t)
	if got := auditsOf(t, given, impl.OK); got != want {
		t.Fatal("audits", got, "not", want, fmt.Sprint(given))
	}
	if !alikeWorlds(given, w.world()) {
		t.Fatal("audits change their world", short(given))
	}
	return want
}

// nodeTextTold is told by what a node's records make.
func nodeTextTold(x givenNode) ([]string, int) {
	if !x.right {
		return nil, impl.ErrBad
	}
	records := recordsIn(x.node)
	p, _ := plainOf(x.Id, records)
	text := []string{fmt.Sprintf("node %d events %d cut %d lines %d", p.id, p.count, p.cut, len(records))}
	for _, key := range keysTold(x.node) {
		text = append(text, key+" "+objTold(p.objs[key]))
	}
	return text, impl.OK
}

func nodeTextAsTold(t *testing.T, x givenNode) []string {
	t.Helper()
	want, wantCode := nodeTextTold(x)
	got, code := impl.NodeText(x.node)
	if !slices.Equal(got, want) || code != wantCode {
		t.Fatal("NodeText", short(x), short(got), code, "not", short(want), wantCode)
	}
	return got
}

func (w plainWorld) textTold() []string {
	var text []string
	for id, x := range w.nodes {
		stands := map[bool]string{true: "up", false: "down"}[w.up[id]]
		text = append(text, fmt.Sprintf("node %d %s events %d keys %d", id, stands, x.count, len(x.objs)))
	}
	return append(text, fmt.Sprintf("net %d hints %d", len(w.net), len(w.hints)),
		fmt.Sprintf("group epoch %d owner %d acked %s", w.group.Epoch, w.group.Owner, vvTold(w.group.Acked)))
}

func (w plainWorld) textAsTold(t *testing.T) []string {
	t.Helper()
	got, code := impl.WorldText(w.world())
	if want := w.textTold(); !slices.Equal(got, want) || code != impl.OK {
		t.Fatal("WorldText", short(w.world()), got, code, "not", want)
	}
	return got
}

const (
	nodeWord    = `([0-2])`
	keyWord     = `([a-z]{1,6})`
	valueWord   = `(0|[1-9][0-9]{0,2})`
	hundredWord = `(0|[1-9][0-9]?|100)`
)

// The words of acts of each kind, by patterns; the fields that they are for stand in stepWords.
var stepForms = func() map[string]*regexp.Regexp {
	forms := map[string]*regexp.Regexp{}
	for word, each := range stepWords {
		pattern := ` *` + word
		for _, field := range strings.Fields(each.fields) {
			pattern += ` +` + map[string]string{"node": nodeWord, "key": keyWord, "value": valueWord, "keep": hundredWord, "n": hundredWord}[field]
		}
		forms[word] = regexp.MustCompile(`\A` + pattern + ` *\z`)
	}
	return forms
}()

var (
	blindForm   = regexp.MustCompile(`\A *(put|delete) .* blind *\z`)
	lastOfBlind = regexp.MustCompile(` blind *\z`)
)

func readActTold(text string) (step, int) {
	if len(text) > 65536 {
		return step{}, impl.ErrLong
	}
	s, ok := actTold(text)
	if !ok {
		return step{}, impl.ErrForm
	}
	return s, impl.OK
}

// actTold takes the last word of a blind act off, then asks each pattern whether it is that of the text, however long it is.
func actTold(text string) (step, bool) {
	blind := blindForm.MatchString(text)
	if blind {
		text = lastOfBlind.ReplaceAllString(text, "")
	}
	for word, form := range stepForms {
		m := form.FindStringSubmatch(text)
		if m == nil {
			continue
		}
		s := step{Kind: stepWords[word].kind, Blind: blind}
		for i, field := range strings.Fields(stepWords[word].fields) {
			s = withField(s, field, m[i+1])
		}
		return s, true
	}
	return step{}, false
}

func readActAsTold(t *testing.T, text string) (step, int) {
	t.Helper()
	want, wantCode := readActTold(text)
	got, code := impl.ReadAct(text)
	if got != want || code != wantCode {
		t.Fatalf("ReadAct %.200q: %+v, %d, not %+v, %d", text, got, code, want, wantCode)
	}
	if code == impl.OK && !impl.ActOK(got) {
		t.Fatalf("ReadAct %.200q: %+v, an act that is not right", text, got)
	}
	return got, code
}

// stepTold has no more than what an act of its kind asks for.
func stepTold(s step) string {
	for word, each := range stepWords {
		if each.kind != s.Kind {
			continue
		}
		words := []string{word}
		for _, field := range strings.Fields(each.fields) {
			words = append(words, map[string]string{"node": fmt.Sprint(s.Node), "key": s.Key, "value": fmt.Sprint(s.Value), "keep": fmt.Sprint(s.Keep), "n": fmt.Sprint(s.N)}[field])
		}
		if s.Blind {
			words = append(words, "blind")
		}
		return strings.Join(words, " ")
	}
	return ""
}
