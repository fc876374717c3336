package tests

import (
	"slices"
	"strings"
	"testing"
	"testing/synctest"

	"loop.example/g00535/impl"
)

// Promise 1, of consoles: lines are as they were behind the call, up to the end of their list and behind it; the world and the
// lines that are answered share no memory with them, nor with each other, nor with a later answer.

type consoleAnswer struct {
	World world
	Said  []string
	Text  string
	Code  int
}

type consoleCall struct {
	name string
	ask  func(lines []string) consoleAnswer
}

var consoleCalls = []consoleCall{
	{"RunLines", func(lines []string) consoleAnswer {
		w, said, code := impl.RunLines(lines)
		return consoleAnswer{World: w, Said: said, Code: code}
	}},
	{"RunLines of the first", func(lines []string) consoleAnswer {
		w, said, code := impl.RunLines(lines[:min(1, len(lines))])
		return consoleAnswer{World: w, Said: said, Code: code}
	}},
	{"Console", func(lines []string) consoleAnswer {
		text, code := impl.Console(textOf(lines))
		return consoleAnswer{Text: text, Code: code}
	}},
}

// Lines of all kinds, as many as there may be, more, and as many as no list may have.
func givenToConsoles(t *testing.T) [][]string {
	t.Helper()
	all := [][]string{nil, {}, {""}, {"go"}, {"view"}, muteLines, noActs[:50], noActs[50:110], append(slices.Clone(actTexts), actTexts...), make([]string, impl.MaxLines), make([]string, impl.MaxLines+1), make([]string, impl.MaxList+1),
		slices.Repeat([]string{"put 0 a 5 blind"}, impl.MaxLines+1), slices.Repeat([]string{"put 0 a 5"}, impl.MaxList+1), {"put 0 a 5" + strings.Repeat(" ", impl.MaxText), "view"}, {strings.Repeat("x", impl.MaxText+1), "world"},
		{"put 0 a 5", "put 1 a 6 blind", "crash 1", "put 0 a 7", "poll 0 9", "world", "node 0", "view", "get a 1"}}
	for _, r := range consoleRuns(t, 12, 3000) {
		all = append(all, r.lines)
	}
	return append(all, laterLines...)
}

func TestNoConsoleTouchesItsLines(t *testing.T) {
	for i, lines := range givenToConsoles(t) {
		l := lendingOf(lines)
		for _, c := range consoleCalls {
			touchesNothing(t, l, c.ask, c.name, i)
		}
	}
}

// Lines that are written into behind the call change nothing that was answered; nor does what is written into an answer change
// a later one.
func TestAnswersOfConsolesAreTheirOwn(t *testing.T) {
	for _, r := range consoleRuns(t, 8, 3100) {
		lines := slices.Clone(r.lines)
		w, said, code := impl.RunLines(lines)
		text, _ := impl.Console(textOf(lines))
		scribble(lines, "put 0 a 5 blind")
		if !alikeWorlds(w, r.world()) || !slices.Equal(said, r.said) || text != textOf(r.said) || code != impl.OK {
			t.Fatal("what was answered has changed", short(r.lines))
		}
		for range 3 {
			scribble(said, "scribble")
			wipe(w)
			w, said, code = impl.RunLines(r.lines)
			if !alikeWorlds(w, r.world()) || !slices.Equal(said, r.said) || code != impl.OK {
				t.Fatal("RunLines", short(said), "not", short(r.said))
			}
		}
		// the worlds of two calls go on in their own ways
		one, _, _ := impl.RunLines(r.lines)
		other, _, _ := impl.RunLines(r.lines)
		for _, s := range stepsForMemory {
			one, _ = impl.WorldDo(one, s)
		}
		if !alikeWorlds(other, r.world()) {
			t.Fatal("one world reaches into another", short(r.lines))
		}
	}
}

// What one console was told another one does not know, whatever was asked between.
func TestConsolesKeepNothing(t *testing.T) {
	runs := consoleRuns(t, 6, 3200)
	for i, r := range runs {
		for k, other := range runs {
			impl.RunLines(other.lines[:10*k])
			impl.Console(textOf(other.lines))
			impl.RunLines(make([]string, impl.MaxLines+1))
			for _, lines := range laterLines {
				impl.RunLines(lines)
			}
			if _, said := linesAsTold(t, r.lines...); !slices.Equal(said, r.said) {
				t.Fatal("it knows of another console", i, k)
			}
			if said, code := impl.Console("view\nnode 0"); said != "rows 0\nnode 0 events 0 cut 0 lines 0\n" || code != impl.OK {
				t.Fatal("Console", said, code)
			}
		}
	}
}

// No goroutine waits for anything behind a call.
func TestConsolesLeaveNoGoroutine(t *testing.T) {
	all := givenToConsoles(t)
	synctest.Test(t, func(t *testing.T) {
		for _, lines := range all {
			for _, c := range consoleCalls {
				c.ask(lines)
			}
		}
	})
}

func callsOfConsoles(t *testing.T) []call {
	var all []call
	for _, lines := range givenToConsoles(t) {
		for _, c := range consoleCalls {
			all = append(all, func() string { return told(c.name, c.ask(lines)) })
		}
	}
	return all
}
