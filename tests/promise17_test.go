package tests

import (
	"fmt"
	"slices"
	"strings"
	"testing"

	"loop.example/g00535/impl"
)

// Promise 17: what a console says to the first of its lines, if there are no more than it takes, does not hang on the later
// ones.

// A run of lines on one console, beside the plain world of which lineTold says what must be said.
type consoleRun struct {
	*worldRun
	lines, said []string
}

func newConsoleRun(t *testing.T, seed uint32) *consoleRun {
	t.Helper()
	return &consoleRun{worldRun: newWorldRun(t, seed)}
}

// drawLine has acts around what is there twice as often as all others.
func (r *consoleRun) drawLine() string {
	s := r.drawStep()
	if s.Key == "" {
		s.Key = "a"
	}
	s.Blind = s.Blind && s.Kind <= impl.AcDelete
	key, id := clusterKeys[r.draw(len(clusterKeys))], r.draw(3)
	others := []string{fmt.Sprint("get ", key, " 1"), fmt.Sprint("get ", key, " 2"), "world", fmt.Sprint("node ", id), "view", "  view  ",
		muteLines[r.draw(len(muteLines))], fmt.Sprint("get ", key, " ", r.draw(9)), fmt.Sprint("node ", r.draw(9)), noActs[r.draw(len(noActs))], stepTold(s) + " 0", "view 0"}
	if pick := r.draw(3 * len(others)); pick < len(others) {
		return others[pick]
	}
	return stepTold(s)
}

func (r *consoleRun) hear(t *testing.T, line string) {
	t.Helper()
	next, said := r.lineTold(t, line)
	r.plainWorld, r.lines, r.said = next, append(r.lines, line), append(r.said, said...)
}

// consoleRuns has runs of as many lines as there may be.
func consoleRuns(t *testing.T, runs int, seed uint32) []*consoleRun {
	t.Helper()
	var all []*consoleRun
	for range runs {
		seed++
		r := newConsoleRun(t, seed)
		for range impl.MaxLines {
			r.hear(t, r.drawLine())
		}
		all = append(all, r)
	}
	return all
}

func TestRunsOfLinesAreAsTold(t *testing.T) {
	met := map[string]int{}
	for _, r := range consoleRuns(t, 300, 2000) {
		_, said := linesAsTold(t, r.lines...)
		if !slices.Equal(said, r.said) {
			t.Fatal(r.lines, said, r.said)
		}
		for _, each := range said {
			word, rest, _ := strings.Cut(each, " ")
			if word == "error" {
				word += " " + rest
			}
			met[word]++
		}
	}
	for word, least := range map[string]int{"ok": 3000, "node": 500, "net": 100, "group": 100, "part": 100, "rows": 200, "error form": 1000, "error down": 200, "error owner": 200, "error none": 50, "error up": 100,
		"error range": 50, "error quorum": 50, "error cut": 20, "a": 50, "zzzzzz": 20} {
		if met[word] < least { // else the runs would show little
			t.Error(word, met[word])
		}
	}
}

// begins tells that what is said to a few lines is the beginning of what is said to them and to others behind them.
func begins(t *testing.T, few []string, want []string, later ...string) {
	t.Helper()
	lines := slices.Concat(few, later)
	_, said, code := impl.RunLines(lines)
	if code != impl.OK || len(said) < len(want) || !slices.Equal(said[:len(want)], want) {
		t.Fatalf("RunLines %.900q: %.900q, %d, does not begin with %.900q", lines, said, code, want)
	}
	if text := textOf(lines); len(text) <= impl.MaxText {
		if said, code := impl.Console(text); code != impl.OK || !strings.HasPrefix(said, textOf(want)) {
			t.Fatalf("Console %.900q: %.900q, %d, does not begin with %.900q", text, said, code, want)
		}
	}
}

// Lines that might reach back: all is lost, all is undone, all is put anew; lines that are none, and long ones.
var laterLines = [][]string{
	{"crash 0", "crash 1", "crash 2"}, {"put 0 a 1", "put 1 a 2 blind", "delete 0 a", "delete 1 b"}, {"torn 0 a 7 0 9", "torn 1 b 7 1 0", "back 0"}, {"drop 0", "drop 0", "deliver 0"}, {"cut 0 1", "cut 1 2", "resync 0", "poll 0 9"},
	{"takeover 1", "poll 0 100", "poll 1 100"}, {"exchange 0 0", "handoff 2", "exchange 1 0"}, {"world", "node 0", "view"}, {"", "#", " "}, {"go", "error form", "ok", "\x00"}, {strings.Repeat("x", impl.MaxText)},
	{strings.Repeat(" ", impl.MaxText+1)}, {"put 0 a 5" + strings.Repeat(" ", impl.MaxText)}, {"get a 3", "get A 1", "node 3", "put 3 a 5"}, {"# put 0 a 1", "#" + strings.Repeat("#", impl.MaxText)},
}

func TestWhatIsSaidToTheFirstLines(t *testing.T) {
	for i, r := range consoleRuns(t, 7, 2400) {
		w := newPlainWorld(t)
		var want []string
		for few := range impl.MaxLines + 1 {
			begins(t, r.lines[:few], want, r.lines[few:]...)
			begins(t, r.lines[:few], want)
			later := laterLines[(few+i)%len(laterLines)]
			begins(t, r.lines[:few], want, later[:min(len(later), impl.MaxLines-few)]...)
			if few == impl.MaxLines {
				break
			}
			next, said := w.lineTold(t, r.lines[few])
			w, want = next, append(want, said...)
		}
	}
}

// A few lines by hand, with each of the rows of later ones, and with as many of them as there may be.
func TestWhateverComesLater(t *testing.T) {
	for _, d := range []dialogue{
		{"", ""}, {"view", "rows 0"}, {"#", ""}, {"go", "error form"}, {"put 0 a 5; get a 1", "ok; 1.0.0 5"}, {"put 0 a 5; get a 2; world", "ok; 1.0.0 5; node 0 up events 1 keys 1; node 1 up events 0 keys 0; node 2 up events 0 keys 0; net 1 hints 0; group epoch 1 owner 0 acked 0.0.0"},
		{"put 0 a 5; poll 0 1; view", "ok; ok; part 1 a 5; rows 1"}, {"crash 0; get a 2; node 0", "ok; error quorum; node 0 events 0 cut 0 lines 0"}, {"put 0 a 5; deliver 0; deliver 0", "ok; ok; error none"},
	} {
		few, want := splitAtMarks(d.lines), splitAtMarks(d.said)
		for _, later := range laterLines {
			begins(t, few, want, later...)
			begins(t, few, want, slices.Repeat(later, impl.MaxLines)[:impl.MaxLines-len(few)]...)
			for _, other := range laterLines {
				begins(t, few, want, append(slices.Clone(later), other...)...)
			}
		}
		// with one line more than it takes it says nothing at all
		for _, later := range laterLines {
			linesRefused(t, append(slices.Clone(few), slices.Repeat(later, impl.MaxLines+1)[:impl.MaxLines+1-len(few)]...), impl.ErrMany)
		}
	}
}

// A text that is cut anywhere: what is said to its whole lines is said still.
func TestTextsThatAreCut(t *testing.T) {
	for _, r := range consoleRuns(t, 3, 2500) {
		text := textOf(r.lines)
		whole, code := impl.Console(text)
		if code != impl.OK || whole != textOf(r.said) {
			t.Fatalf("Console %q: %q, %d", text, whole, code)
		}
		for at := range len(text) {
			lines := strings.Split(text[:at], "\n")
			_, want := linesTold(t, lines[:len(lines)-1])
			said, code := impl.Console(text[:at])
			if code != impl.OK || !strings.HasPrefix(said, textOf(want)) || !strings.HasPrefix(whole, textOf(want)) {
				t.Fatalf("Console %q: %q, %d, does not begin with %q", text[:at], said, code, want)
			}
		}
	}
}

// Lines that only ask, and lines that are none, may be put in or left out: all others are answered as they were.
func TestLinesThatOnlyAsk(t *testing.T) {
	asks := []string{"world", "node 0", "node 1", "view", "get a 1", "get a 2", "get b 2", "", "#", "go", "put 0 a", "get a 3", "node 3"}
	for _, r := range consoleRuns(t, 40, 2600) {
		var acts, both []string
		for i, line := range r.lines[:30] {
			if _, isAct := actTold(line); isAct {
				acts = append(acts, line)
				both = append(both, asks[i%len(asks)], line)
			}
		}
		without, said := linesAsTold(t, acts...)
		with, more := linesAsTold(t, both...)
		if !alikeWorlds(with.world(), without.world()) {
			t.Fatal("asking changes a world", acts)
		}
		var left []string
		for _, line := range more {
			if line == "ok" || strings.HasPrefix(line, "error ") && line != "error form" && line != "error quorum" {
				left = append(left, line)
			}
		}
		said = slices.DeleteFunc(slices.Clone(said), func(line string) bool { return line == "error quorum" })
		if !slices.Equal(left, said) {
			t.Fatal("acts are answered otherwise", left, said)
		}
	}
}
