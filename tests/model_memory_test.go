package tests

import (
	"math"
	"slices"
	"testing"

	"loop.example/g00535/impl"
)

// Promise 1, of events: an argument is as it was behind the call, up to its end and behind it, and siblings or keys that
// are answered share no memory with an argument, nor with a later answer.

// What a call on events answers: calls leave out what they do not tell.
type modelAnswer struct {
	Obj  obj
	Keys []string
	Text string
	Yes  bool
	Code int
}

type modelCall struct {
	name string
	ask  func(list []deed) modelAnswer
}

func overwrittenCall(d dot) modelCall {
	return modelCall{named("Overwritten", d), func(list []deed) modelAnswer {
		over, code := impl.Overwritten(list, d)
		return modelAnswer{Yes: over, Code: code}
	}}
}

func modelObjCall(key string) modelCall {
	return modelCall{named("ModelObj", key), func(list []deed) modelAnswer {
		o, code := impl.ModelObj(list, key)
		return modelAnswer{Obj: o, Code: code}
	}}
}

// Each call, with each of its codes.
func modelCalls() []modelCall {
	all := []modelCall{
		{"EventsOK", func(list []deed) modelAnswer { return modelAnswer{Yes: impl.EventsOK(list)} }},
		{"ModelKeys", func(list []deed) modelAnswer {
			keys, code := impl.ModelKeys(list)
			return modelAnswer{Keys: keys, Code: code}
		}},
		{"EventText of the last", func(list []deed) modelAnswer {
			if len(list) == 0 {
				return modelAnswer{}
			}
			text, code := impl.EventText(list[len(list)-1])
			return modelAnswer{Text: text, Code: code}
		}},
	}
	for _, key := range []string{"a", "b", "k", "aa", "zzzzzz", "none", "", "B", longKeys[0]} {
		all = append(all, modelObjCall(key))
	}
	for _, d := range append(dotsIn("a1", "a2", "b1", "b3", "c1", "c100", "a9999"), dot{}, dot{Node: -1, N: 1}, dot{Node: 3, N: 1},
		dot{Node: math.MaxInt, N: math.MinInt}, dot{Node: 0, N: math.MaxInt}) {
		all = append(all, overwrittenCall(d))
	}
	return all
}

// Right and wrong lists. What is large comes seldom.
func listsForMemory() [][]deed {
	all := append(rightDeeds(), drawnDeeds()[:30]...)
	wrong := slices.Concat(wrongOrdersOfDeeds(), wrongContextsOfDeeds()[:30], tooManyDeeds()[:3])
	for i, list := range wrongPartsOfDeeds() {
		if i%7 == 0 {
			wrong = append(wrong, list)
		}
	}
	return append(append(all, wrong...), make([]deed, impl.MaxList+1))
}

func TestNoCallTouchesEvents(t *testing.T) {
	for i, given := range listsForMemory() {
		l := lendingOf(given)
		for _, c := range modelCalls() {
			touchesNothing(t, l, c.ask, c.name, i)
		}
	}
}

// A list whose next events stand behind its end: what is behind is not asked for, and stays as it is.
func TestBeginningsOfAListOfEvents(t *testing.T) {
	list := someDeeds()
	was := slices.Clone(list)
	for many := range list {
		ahead := slices.Clip(slices.Clone(list[:many]))
		for _, c := range modelCalls() {
			if got, want := c.ask(list[:many]), c.ask(ahead); told(c.name, got) != told(c.name, want) {
				t.Fatal(c.name, many, got, "not", want)
			}
		}
	}
	if !slices.Equal(list, was) {
		t.Error("what stands behind the end was changed", list)
	}
}

// Answers that are written into, and lists that are changed behind a call, do not reach into each other.
func TestAnswersOfEventsAreTheirOwn(t *testing.T) {
	list := someDeeds()
	o, _ := impl.ModelObj(list, "a")
	keys, _ := impl.ModelKeys(list)
	scribble(list, deed{Key: "scribble"})
	if !alike(o, objIn("4.3.1|a4=999|b3=5")) || !slices.Equal(keys, []string{"a", "b"}) {
		t.Error("answers have their argument's memory", o, keys)
	}
	list = someDeeds()
	scribble(o.Sibs, live(1, 12, 12))
	scribble(keys, "scribble")
	again, _ := impl.ModelObj(list, "a")
	keysAgain, _ := impl.ModelKeys(list)
	if !alike(again, objIn("4.3.1|a4=999|b3=5")) || !slices.Equal(keysAgain, []string{"a", "b"}) || !slices.Equal(list, someDeeds()) {
		t.Error("answers have what was answered ahead", again, keysAgain)
	}
}

// Maps are gone through in any order: what as many events as there may be make is told alike each time.
func TestEventsAreToldAlikeEachTime(t *testing.T) {
	h := history{state: 5}
	for _, list := range [][]deed{unknowing(1, mostDeeds, "k"), knowing(mostDeeds, 3), eachItsOwn(2, mostDeeds), h.deeds(mostDeeds, "k", "aa"), h.deeds(mostDeeds, "k")} {
		for _, key := range []string{"k", "aa"} {
			want := modelAsTold(t, list, key)
			for range 50 {
				if again, code := impl.ModelObj(list, key); !alike(again, want) || code != impl.OK {
					t.Fatal("told in another way", short(again), code, "not", short(want))
				}
			}
		}
	}
}

func callsOfEvents() []call {
	var all []call
	for _, list := range listsForMemory() {
		for _, c := range modelCalls() {
			all = append(all, func() string { return told(c.name, c.ask(list)) })
		}
	}
	return all
}
