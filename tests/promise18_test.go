package tests

import (
	"fmt"
	"slices"
	"strings"
	"testing"

	"loop.example/g00535/impl"
)

// Promise 18, the theorem of the whole: whatever lines come, no replica has what was not, streams have no event twice, and
// settled all owners have what all events make, also behind more crashes.

// behind answers the world behind lines.
func behind(t *testing.T, lines ...string) world {
	t.Helper()
	w, _, code := impl.RunLines(lines)
	if code != impl.OK {
		t.Fatal("RunLines", len(lines), code)
	}
	return w
}

// objectsOf tells what each node has of each key.
func objectsOf(w world) string {
	var text strings.Builder
	for id, x := range w.Cluster.Nodes {
		for _, c := range x.Cells {
			fmt.Fprintln(&text, id, c.Key, objTold(c.Obj))
		}
	}
	return text.String()
}

func settledOf(t *testing.T, w world) world {
	t.Helper()
	after, code := impl.SettleAll(w.Cluster)
	if code != impl.OK {
		t.Fatal("SettleAll", code)
	}
	w.Cluster = after
	return w
}

// streamRises asks that of each node the stream has events once, in their order, and none that was not.
func streamRises(t *testing.T, w world, what ...any) {
	t.Helper()
	var last vv
	for _, d := range w.Group.Stream {
		if d.N <= last[d.Node] || d.N > countTold(w.Events, d.Node) {
			t.Fatal("stream", w.Group.Stream, "events", deedTexts(w.Events), what)
		}
		last[d.Node] = d.N
	}
}

// holdsWhole asks for all parts of the theorem.
func holdsWhole(t *testing.T, w world, what ...any) {
	t.Helper()
	if !impl.WorldOK(w) {
		t.Fatal("a world that is not right", short(w), what)
	}
	holdsAll(t, w, what...)
	streamRises(t, w, what...)
}

// Nodes that crash behind the lines, and come back or not, in several orders.
var laterCrashes = [][]string{
	{"crash 0"}, {"crash 1"}, {"crash 2"}, {"crash 0", "crash 1"}, {"crash 2", "crash 0", "crash 1"}, {"crash 0", "back 0"}, {"crash 1", "crash 2", "back 1"}, {"crash 2", "crash 1", "crash 0", "back 0", "back 2", "back 1"},
	{"crash 1", "handoff 2", "back 1", "handoff 2", "exchange 0 0", "crash 1"}, {"crash 0", "exchange 1 0", "back 0", "crash 0", "back 0", "exchange 2 0"}, {"crash 0", "deliver 0", "deliver 0", "back 0", "deliver 0"},
	{"back 0", "back 1", "back 2", "crash 0", "crash 1", "crash 2"}, {"crash 0", "resync 0", "back 0", "resync 0", "poll 0 9", "crash 0", "back 0", "poll 0 9"},
}

// crashesChangeNothing goes on with lines that put nothing: settled, all owners have what they would have had without them.
func crashesChangeNothing(t *testing.T, lines []string, want string) {
	t.Helper()
	for _, more := range laterCrashes {
		w := behind(t, slices.Concat(lines, more)...)
		holdsWhole(t, w, lines, more)
		if got := objectsOf(settledOf(t, w)); got != want {
			t.Fatal("settled behind", lines, more, got, "not", want)
		}
	}
}

func TestWhateverLinesCome(t *testing.T) {
	met := map[string]int{}
	for i, r := range consoleRuns(t, 60, 2700) {
		for few := range impl.MaxLines + 1 {
			if few%4 != i%4 && few < impl.MaxLines {
				continue
			}
			holdsWhole(t, behind(t, r.lines[:few]...), r.lines[:few])
		}
		w := behind(t, r.lines...)
		met["events"] += len(w.Events)
		met["stream"] += len(w.Group.Stream)
		met["rows"] += len(w.Rows)
		met["messages"] += len(w.Cluster.Net)
		met["hints"] += len(w.Cluster.Hints)
		if objectsOf(w) != objectsOf(settledOf(t, w)) {
			met["worlds that were not settled"]++
		}
		for id := range impl.Nodes {
			if !w.Cluster.Up[id] {
				met["nodes that were down"]++
			}
		}
	}
	for what, least := range map[string]int{"events": 300, "stream": 100, "rows": 60, "messages": 100, "hints": 20, "worlds that were not settled": 40, "nodes that were down": 20} {
		if met[what] < least { // else it would show little
			t.Error(what, met[what])
		}
	}
}

func TestBehindMoreCrashes(t *testing.T) {
	for _, r := range consoleRuns(t, 40, 2800) {
		lines := r.lines[:impl.MaxLines-10]
		w := behind(t, lines...)
		crashesChangeNothing(t, lines, objectsOf(settledOf(t, w)))
		// of each kind of crash, whatever it keeps and tears, between any two of the last lines
		for at := impl.MaxLines - 16; at < impl.MaxLines-10; at++ {
			id := at % 3
			crashed := behind(t, slices.Concat(lines[:at], []string{fmt.Sprint("crash ", id), fmt.Sprint("back ", id)}, lines[at:])...)
			holdsWhole(t, crashed, lines, at)
			torn := behind(t, slices.Concat(lines[:at], []string{fmt.Sprintf("torn %d a 7 %d %d", id, at%2, at*7%100), fmt.Sprint("back ", id)}, lines[at:])...)
			holdsWhole(t, torn, lines, at)
		}
	}
}

// A node that is up crashes behind any line, and is back at once: with it and without, the world is the same in the end.
func TestACrashBehindEachLine(t *testing.T) {
	for _, r := range consoleRuns(t, 6, 2900) {
		lines := r.lines[:impl.MaxLines-2]
		want := behind(t, lines...)
		for at := range len(lines) + 1 {
			w := behind(t, lines[:at]...)
			for id := range impl.Nodes {
				if w.Cluster.Up[id] {
					got := behind(t, slices.Concat(lines[:at], []string{fmt.Sprint("crash ", id), fmt.Sprint("back ", id)}, lines[at:])...)
					if !alikeWorlds(got, want) || !impl.SameWorld(got, want) {
						t.Fatal("crash", id, "behind", lines[:at], short(got), "not", short(want))
					}
				}
			}
		}
	}
}

// All rows of up to three of these lines, one behind the other.
func TestWhateverFewLinesCome(t *testing.T) {
	few := []string{"put 0 a 5", "put 1 a 6", "put 1 a 7 blind", "delete 0 a", "deliver 0", "twice 0", "crash 1", "back 1", "torn 1 a 8 0 100", "torn 0 a 8 0 9", "handoff 2", "exchange 0 0", "poll 0 1", "cut 0 1", "resync 0", "go"}
	var ask func(lines []string)
	ask = func(lines []string) {
		w, _ := linesAsTold(t, lines...)
		holdsWhole(t, w.world(), lines)
		if len(lines) == 3 {
			return
		}
		for _, line := range few {
			ask(append(slices.Clone(lines), line))
		}
	}
	ask(nil)
}

// Told by hand: what was written at both owners, lost on its way, torn, handed over, deleted, polled and cut, with nodes that
// crash between. Behind all of it stands what each key's events make.
func TestTheWholeByHand(t *testing.T) {
	for _, c := range []struct{ lines, objects, stream string }{
		{"put 0 a 5; drop 0; crash 0; put 1 a 6; crash 1", "0 a 1.1.0|a1=5|b1=6; 1 a 1.1.0|a1=5|b1=6", ""},
		{"put 0 a 5; crash 1; put 0 a 6; crash 2; crash 0", "0 a 2.0.0|a2=6; 1 a 2.0.0|a2=6", ""},
		{"torn 0 a 5 0 9; back 0; torn 0 a 6 1 0; crash 1; back 0; delete 0 a; crash 0", "0 a 2.0.0|a2!; 1 a 2.0.0|a2!", ""},
		{"torn 0 a 5 0 9; crash 1; crash 2", "", ""},
		{"put 0 a 5; deliver 0; put 1 a 6 blind; delete 0 a; deliver 0; deliver 0; crash 1; crash 0", "0 a 2.1.0|a2!|b1=6; 1 a 2.1.0|a2!|b1=6", ""},
		{"put 0 e 5; put 0 k 6; put 1 b 7; poll 0 1; poll 1 9; crash 0; back 0; takeover 2; poll 0 9; poll 0 9; poll 1 9; drop 2; drop 1; drop 0; crash 0; crash 1; crash 2",
			"0 e 1.0.0|a1=5; 0 k 2.0.0|a2=6; 1 b 0.1.0|b1=7; 1 k 2.0.0|a2=6; 2 b 0.1.0|b1=7; 2 e 1.0.0|a1=5", "a1 b1 a2"},
		{"put 0 a 5; poll 0 9; put 0 a 6; cut 0 2; poll 0 9; resync 0; put 0 a 7; crash 0; poll 0 9; back 0; poll 0 9; poll 0 9; crash 1", "0 a 3.0.0|a3=7; 1 a 3.0.0|a3=7", "a1 a3"},
		{"go; put 0 a; #put 0 a 5; ; get a 3; put 3 a 5; put 2 a 5; crash 0; put 0 a 5; torn 0 a 5 1 0; back 0; crash 0", "", ""},
	} {
		lines := splitAtMarks(c.lines)
		w := behind(t, lines...)
		holdsWhole(t, w, lines)
		want := strings.Join(append(splitAtMarks(c.objects), ""), "\n")
		if got := objectsOf(settledOf(t, w)); got != want {
			t.Errorf("settled behind %q: %q, not %q", lines, got, want)
		}
		if got := fmt.Sprint(w.Group.Stream); got != fmt.Sprint(dotsIn(strings.Fields(c.stream)...)) {
			t.Errorf("stream behind %q: %s, not %s", lines, got, c.stream)
		}
		crashesChangeNothing(t, lines, want)
	}
}
