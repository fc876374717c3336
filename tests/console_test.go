package tests

import (
	"fmt"
	"slices"
	"strings"
	"testing"

	"loop.example/g00535/impl"
)

func TestConsoleConstants(t *testing.T) {
	if impl.MaxLines != 60 {
		t.Error("MaxLines", impl.MaxLines)
	}
}

// What must be said to lines, told by hand. Between two of either stands "; ".
type dialogue struct{ lines, said string }

func splitAtMarks(text string) []string {
	if text == "" {
		return nil
	}
	return strings.Split(text, "; ")
}

func (d dialogue) isSaid(t *testing.T) {
	t.Helper()
	lines, want := splitAtMarks(d.lines), splitAtMarks(d.said)
	if _, said, code := impl.RunLines(lines); !slices.Equal(said, want) || code != impl.OK {
		t.Errorf("RunLines %q: %q, %d, not %q", lines, said, code, want)
	}
	if said, code := impl.Console(textOf(lines)); said != textOf(want) || code != impl.OK {
		t.Errorf("Console %q: %q, %d, not %q", lines, said, code, want)
	}
	linesAsTold(t, lines...)
}

// Key a belongs to nodes 0 and 1 in this order, b to 1 and 2, e to 2 and 0. Each kind of act, with ok and with each of the
// codes that it may have on a console.
func TestActsOnConsoles(t *testing.T) {
	for _, d := range []dialogue{
		{"put 0 a 5", "ok"}, {"put 1 a 5 blind", "ok"}, {"put 2 a 5", "error owner"}, {"put 2 a 5 blind", "error owner"}, {"crash 0; put 0 a 5", "ok; error down"},
		{"crash 0; crash 1; put 0 a 5; put 0 a 5 blind; put 2 a 5; put 2 a 5 blind", "ok; ok; error quorum; error down; error quorum; error owner"},
		{"crash 2; put 2 a 5", "ok; error down"}, {"crash 1; put 0 a 5", "ok; ok"},
		{"delete 0 a", "ok"}, {"delete 1 a blind", "ok"}, {"delete 2 a", "error owner"}, {"crash 0; delete 0 a; delete 0 a blind", "ok; error down; error down"},
		{"crash 0; crash 1; delete 0 a; delete 1 a blind", "ok; ok; error quorum; error down"},
		{"deliver 0", "error none"}, {"put 0 a 5; deliver 1; deliver 0; deliver 0", "ok; error none; ok; error none"}, {"put 0 a 5; crash 1; deliver 0; deliver 0", "ok; ok; error down; error none"},
		{"drop 0", "error none"}, {"put 0 a 5; drop 100; drop 0; drop 0", "ok; error none; ok; error none"},
		{"twice 0", "error none"}, {"put 0 a 5; twice 1; twice 0; twice 1; drop 2; drop 1; drop 0; drop 0", "ok; error none; ok; ok; ok; ok; ok; error none"},
		{"crash 0; crash 0; crash 1; crash 2; crash 2", "ok; error down; ok; ok; error down"},
		{"back 0; crash 0; back 0; back 0", "error up; ok; ok; error up"},
		{"torn 0 a 5 0 0; torn 0 a 5 0 0; back 0; torn 0 a 5 1 0", "ok; error down; ok; ok"}, {"torn 2 a 5 0 0; crash 2; torn 2 a 5 0 0", "error owner; ok; error down"},
		{"exchange 0 0; exchange 2 100", "ok; ok"}, {"crash 1; exchange 0 0; exchange 0 1; exchange 1 1; exchange 2 0; exchange 2 1", "ok; error down; ok; error down; ok; error down"},
		{"handoff 0; crash 0; handoff 0; handoff 1", "ok; ok; error down; ok"},
		{"poll 0 1; crash 0; poll 0 1; poll 0 0; poll 1 1", "ok; ok; error down; error down; ok"},
		{"put 0 a 5; cut 0 1; poll 0 9; poll 0 0; resync 0; poll 0 9", "ok; ok; error cut; error cut; ok; ok"},
		{"takeover 0; takeover 2; crash 1; takeover 1", "ok; ok; ok; ok"},
		{"cut 0 0; cut 0 1; put 0 a 5; cut 0 2; cut 0 1; cut 0 1; crash 0; cut 0 1", "error range; error range; ok; error range; ok; error range; ok; error down"},
		{"resync 0; crash 0; resync 0; resync 2", "ok; ok; error down; ok"},
	} {
		d.isSaid(t)
	}
}

func TestGetsOnConsoles(t *testing.T) {
	for _, d := range []dialogue{
		// keys that nobody has
		{"get a 1; get a 2; get zzzzzz 1; get zzzzzz 2", "0.0.0; 0.0.0; 0.0.0; 0.0.0"},
		{"put 0 a 5; get k 1; get b 2; get aa 1", "ok; 0.0.0; 0.0.0; 0.0.0"},
		// what one owner has, and what both have; at the first owner, and at the second one
		{"put 0 a 5; get a 1; get a 2", "ok; 1.0.0 5; 1.0.0 5"},
		{"put 1 a 5; get a 1; get a 2; deliver 0; get a 1", "ok; 0.0.0; 0.1.0 5; ok; 0.1.0 5"},
		{"put 0 e 5; get e 1; get e 2", "ok; 0.0.0; 1.0.0 5"},
		{"put 0 a 7; put 1 a 6; put 1 a 5 blind; get a 1; get a 2", "ok; ok; ok; 1.0.0 7; 1.2.0 6 5"},
		// values by their events, also alike ones; tombstones have none
		{"put 1 a 3; put 0 a 9; put 1 a 3 blind; get a 2; get a 1", "ok; ok; ok; 1.2.0 9 3 3; 1.0.0 9"},
		{"delete 0 a; get a 1; get a 2; put 0 a 0 blind; get a 1", "ok; 1.0.0; 1.0.0; ok; 2.0.0 0"},
		{"put 0 a 5; delete 0 a; get a 2; put 0 a 999; get a 2", "ok; ok; 2.0.0; ok; 3.0.0 999"},
		// owners that are down: whoever is up is the first
		{"put 0 a 5; crash 1; get a 1; get a 2; back 1; get a 2", "ok; ok; 1.0.0 5; error quorum; ok; 1.0.0 5"},
		{"put 0 a 5; crash 0; get a 1; get a 2", "ok; ok; 0.0.0; error quorum"},
		{"put 0 a 5; crash 2; get a 1; get a 2", "ok; ok; 1.0.0 5; 1.0.0 5"},
		{"put 0 a 5; crash 1; crash 0; get a 1; get a 2; get b 1; get b 2", "ok; ok; ok; error quorum; error quorum; 0.0.0; error quorum"},
		// a get changes nothing
		{"put 0 a 5; get a 2; node 1; world", "ok; 1.0.0 5; node 1 events 0 cut 0 lines 0; node 0 up events 1 keys 1; node 1 up events 0 keys 0; node 2 up events 0 keys 0; net 1 hints 0; group epoch 1 owner 0 acked 0.0.0"},
	} {
		d.isSaid(t)
	}
	// of what is no get nothing else is asked, whoever is down
	for _, line := range []string{"get", "get a", "get 1", "get 1 a", "get a 0", "get a 3", "get a 01", "get a 02", "get a 00", "get a 10", "get a 11", "get a 21", "get a 100", "get a -1", "get a +1", "get a 1.0", "get a one", "get a a",
		"get a 1 1", "get a 1 blind", "get a 1 #", "get a b 1", "get a 18446744073709551617", "get a 4294967297", "get a " + strings.Repeat("0", 99) + "1", "get A 1", "get a1 1", "get aaaaaaa 1", "get 0 1", "get # 1", "get \u00e4 1",
		"Get a 1", "GET a 1", "ge a 1", "g a 1", "gets a 1", "geta 1", "get1 a", "et a 1", "got a 1", "put a 1", "a 1", "1 a get", "a get 1"} {
		dialogue{"crash 0; crash 1; " + line + "; get a 1", "ok; ok; error form; error quorum"}.isSaid(t)
		dialogue{line, "error form"}.isSaid(t)
	}
}

func TestWorldsAndNodesOnConsoles(t *testing.T) {
	for _, d := range []dialogue{
		{"world", "node 0 up events 0 keys 0; node 1 up events 0 keys 0; node 2 up events 0 keys 0; net 0 hints 0; group epoch 1 owner 0 acked 0.0.0"},
		{"node 0; node 2; node 1", "node 0 events 0 cut 0 lines 0; node 2 events 0 cut 0 lines 0; node 1 events 0 cut 0 lines 0"},
		{"put 0 k 6; put 0 a 5; put 1 a 7; world; node 0; node 1", "ok; ok; ok; node 0 up events 2 keys 2; node 1 up events 1 keys 1; node 2 up events 0 keys 0; net 3 hints 0; group epoch 1 owner 0 acked 0.0.0; " +
			"node 0 events 2 cut 0 lines 2; a 2.0.0|a2=5; k 1.0.0|a1=6; node 1 events 1 cut 0 lines 1; a 2.1.0|b1=7"},
		{"crash 1; put 0 a 5; delete 0 a; crash 2; put 0 e 1; world", "ok; ok; ok; ok; ok; node 0 up events 3 keys 2; node 1 down events 0 keys 0; node 2 down events 0 keys 0; net 0 hints 2; group epoch 1 owner 0 acked 0.0.0"},
		{"crash 1; put 0 a 5; crash 0; node 0; node 1; back 1; handoff 2; node 1; world", "ok; ok; ok; node 0 events 1 cut 0 lines 1; a 1.0.0|a1=5; node 1 events 0 cut 0 lines 0; ok; ok; node 1 events 0 cut 0 lines 1; a 1.0.0|a1=5; " +
			"node 0 down events 1 keys 1; node 1 up events 0 keys 1; node 2 up events 0 keys 0; net 0 hints 0; group epoch 1 owner 0 acked 0.0.0"},
		{"put 0 a 5; deliver 0; put 1 a 6 blind; deliver 0; put 0 a 7; cut 0 1; node 0; takeover 2; poll 1 1; world", "ok; ok; ok; ok; ok; ok; node 0 events 2 cut 1 lines 4; a 2.1.0|a2=7; ok; ok; " +
			"node 0 up events 2 keys 1; node 1 up events 1 keys 1; node 2 up events 0 keys 0; net 1 hints 0; group epoch 2 owner 2 acked 0.1.0"},
		{"torn 0 a 5 0 9; node 0; back 0; torn 0 a 6 1 0; node 0; world", "ok; node 0 events 0 cut 0 lines 0; ok; ok; node 0 events 1 cut 0 lines 1; a 1.0.0|a1=6; " +
			"node 0 down events 1 keys 1; node 1 up events 0 keys 0; node 2 up events 0 keys 0; net 0 hints 0; group epoch 1 owner 0 acked 0.0.0"},
	} {
		d.isSaid(t)
	}
	for _, line := range []string{"world 1", "world 0", "world world", "world #", "world blind", "World", "WORLD", "worl", "w", "worlds", "world1", "orld", "node", "node 3", "node 4", "node 10", "node 00", "node 01", "node -0", "node -1", "node +1",
		"node a", "node 0 0", "node 0 1", "node 0 blind", "node 0 #", "node 1.0", "node 0x0", "node 18446744073709551616", "Node 0", "NODE 0", "nod 0", "n 0", "nodes 0", "node0", "0 node", "node node 0", "0", "1"} {
		dialogue{line + "; put 0 a 5; " + line, "error form; ok; error form"}.isSaid(t)
	}
}

func TestViewsOnConsoles(t *testing.T) {
	for _, d := range []dialogue{
		{"view", "rows 0"}, {"put 0 a 5; view", "ok; rows 0"}, {"put 1 b 5; poll 1 9; view", "ok; ok; rows 0"},
		{"put 0 a 5; poll 0 9; view", "ok; ok; part 1 a 5; rows 1"},
		{"put 0 a 4; put 0 a 5 blind; put 0 a 998 blind; put 0 a 999 blind; put 0 a 0 blind; poll 0 9; view", "ok; ok; ok; ok; ok; ok; part 0 a 0 4; part 1 a 5; part 2 a 998; part 3 a 999; rows 4"},
		{"put 0 s 9; put 0 e 1; put 0 k 8; put 0 a 5; put 0 a 1 blind; put 0 a 5 blind; poll 0 9; view", "ok; ok; ok; ok; ok; ok; ok; part 0 k 8; part 1 a 1 5; part 1 e 1; part 1 s 9; rows 4"},
		// a key without values that are alive has no row
		{"put 0 a 5; delete 0 a; delete 0 k; poll 0 9; view", "ok; ok; ok; ok; rows 0"},
		{"put 0 a 5; poll 0 9; put 0 k 6; delete 0 a; view; poll 0 1; view; poll 0 1; view", "ok; ok; ok; ok; part 1 a 5; rows 1; ok; part 1 a 5; part 2 k 6; rows 2; ok; part 2 k 6; rows 1"},
		// rows are told as they were followed, not as nodes are
		{"put 0 a 5; poll 0 9; put 0 a 6; view; resync 0; view; crash 0; view", "ok; ok; ok; part 1 a 5; rows 1; ok; part 2 a 6; rows 1; ok; part 2 a 6; rows 1"},
	} {
		d.isSaid(t)
	}
	for _, line := range []string{"view 1", "view 0", "view a", "view view", "view #", "view blind", "View", "VIEW", "vie", "v", "views", "view0", "iew", "rows", "part 0"} {
		dialogue{"put 0 a 5; poll 0 9; " + line + "; view", "ok; ok; error form; part 1 a 5; rows 1"}.isSaid(t)
	}
}

// Rows of as many values as lines can put.
func TestRowsOfManyValuesOnConsoles(t *testing.T) {
	var lines, texts []string
	for n := range 57 {
		lines = append(lines, fmt.Sprintf("put 0 a %d blind", 4*(56-n)))
		texts = append(texts, fmt.Sprint(4*n))
	}
	_, said := linesAsTold(t, append(lines, "poll 0 100", "view", "get a 1")...)
	if want := "part 0 a " + strings.Join(texts, " "); len(said) != 61 || said[58] != want || said[59] != "rows 1" || !strings.HasPrefix(said[60], "57.0.0 224 220 216 ") || !strings.HasSuffix(said[60], " 8 4 0") {
		t.Error(said)
	}
	lines = nil
	for n := range 58 {
		lines = append(lines, fmt.Sprintf("put 0 %s %d", string([]byte{'a' + byte(n%6), 'b' + byte(n/6)}), n))
	}
	w, said := linesAsTold(t, append(lines, "poll 0 100", "view")...)
	if last := said[len(said)-1]; last != fmt.Sprintf("rows %d", len(w.rows)) || len(w.rows) < 20 {
		t.Error(said)
	}
}

// Lines that say nothing, wherever they stand.
var muteLines = []string{"", " ", "   ", strings.Repeat(" ", 999), "#", "##", "# ", " #", "    #", "#put 0 a 5", "# put 0 a 5", " #put 0 a 5", "  # put 0 a 5 ", "#world", "# view", "#\x00\xff", "#\t", "#\r", "#get a 1", "# node 0 #", "#ok", "# \u00e4"}

func TestLinesThatSayNothing(t *testing.T) {
	for _, line := range muteLines {
		dialogue{line, ""}.isSaid(t)
		dialogue{"put 0 a 5; " + line + "; get a 1; " + line + "; put 0 a 6; " + line, "ok; 1.0.0 5; ok"}.isSaid(t)
	}
	if w, said, code := impl.RunLines(muteLines); !alikeWorlds(w, newPlainWorld(t).world()) || len(said) != 0 || code != impl.OK {
		t.Error("RunLines", short(w), said, code)
	}
	for _, lines := range [][]string{nil, {}, {""}, slices.Repeat([]string{"#world"}, impl.MaxLines)} {
		if w, said, code := impl.RunLines(lines); !alikeWorlds(w, newPlainWorld(t).world()) || len(said) != 0 || code != impl.OK {
			t.Error("RunLines", lines, short(w), said, code)
		}
	}
	// a sign that is not ahead of all is part of a word, or a word too many
	for _, line := range []string{"world #", "world # all", "put 0 a 5 #", "put 0 a #5", "put # a 5", "p#ut 0 a 5", "put# 0 a 5", "get a 1 # one", "a#", "\t#", "\x00#", "\xff#", ";#", "\\#", "\"#\"", "-#", "!#", "\u00a0#", "\r#", "\u00a0", "\t", "\r", "\t \t", "\x00", "//", "--", "%"} {
		dialogue{line + "; get a 1; " + line, "error form; 0.0.0; error form"}.isSaid(t)
	}
}

// The first words of all lines in great letters, cut short, and with more behind them: none of them is one.
func TestWordsThatAreNearlyRight(t *testing.T) {
	texts := append(slices.Clone(actTexts), "get a 1", "world", "node 0", "view")
	for _, text := range texts {
		first, rest, _ := strings.Cut(text, " ")
		var lines []string
		for at := 1; at < len(first); at++ {
			lines = append(lines, first[:at], first[at:], first[:at]+" "+first[at:], first[:at]+strings.ToUpper(first[at:at+1])+first[at+1:], first[:at]+"#"+first[at:])
		}
		for _, word := range []string{strings.ToUpper(first), strings.ToUpper(first[:1]) + first[1:], first + "s", first + "#", first + "0", first + ":", first + ",", "/" + first, "\"" + first + "\"", first + first, "x" + first, first + "\x00", first + "\u00a0", "get" + first, first + "get"} {
			lines = append(lines, word)
		}
		for _, line := range lines {
			dialogue{"put 0 a 5; " + line + " " + rest, "ok; error form"}.isSaid(t)
		}
	}
}

// Whatever is asked of a console: lines of right ones with each byte left out, doubled, put in and put in another one's place.
func TestLinesThatAreNearlyRight(t *testing.T) {
	for _, text := range []string{"get a 1", " get  abcdef  2 ", "world", "  world ", "node 0", "node  2 ", "view", "#view", "put 0 a 5", "deliver 0", "delete 1 a blind"} {
		var lines []string
		for at := range len(text) + 1 {
			for b := range 256 {
				one := string([]byte{byte(b)})
				lines = append(lines, text[:at]+one+text[at:])
				if at < len(text) {
					lines = append(lines, text[:at]+one+text[at+1:])
				}
			}
			for end := at; end <= len(text); end++ {
				lines = append(lines, text[:at]+text[end:], text[:end]+text[at:])
			}
		}
		eachAsTold(t, lines)
	}
}

// Between words nothing but blanks stands, and nothing else ends a text's line than a byte 10.
func TestBytesBetweenWordsOfLines(t *testing.T) {
	for _, text := range []string{"get a 1", "node 0", "put 0 a 5", "exchange 0 1"} {
		for _, between := range []string{"\t", "\r", "\x0b", "\x0c", "\x00", "\xa0", "\u00a0", "\u2003", "\u3000", "\u0085", "\u2028", "\x85", "\xff", "_", ",", ".", ":", "|"} {
			for _, line := range []string{strings.ReplaceAll(text, " ", between), strings.Replace(text, " ", between, 1), strings.Replace(text, " ", " "+between+" ", 1), strings.Replace(text, " ", between+" ", 1), between + text, text + between} {
				dialogue{line, "error form"}.isSaid(t)
			}
			dialogue{"world" + between, "error form"}.isSaid(t)
			dialogue{between + "view", "error form"}.isSaid(t)
		}
		for _, line := range []string{" " + text, text + " ", "    " + text + "    ", strings.ReplaceAll(text, " ", "     ")} {
			_, want := linesAsTold(t, text)
			if _, said := linesAsTold(t, line); !slices.Equal(said, want) {
				t.Error(line, said, want)
			}
		}
		// of a list's line a byte 10 is no more than another byte
		for _, line := range []string{text + "\n", "\n" + text, strings.Replace(text, " ", "\n", 1), text + "\n" + text, "\n", "\n\n", "\n#", "world\n", "world\nview"} {
			if _, said, code := impl.RunLines([]string{line}); !slices.Equal(said, []string{"error form"}) || code != impl.OK {
				t.Errorf("RunLines %q: %q, %d", line, said, code)
			}
		}
		for _, line := range []string{"#\n" + text, " # \n world"} {
			if _, said, code := impl.RunLines([]string{line}); len(said) > 0 || code != impl.OK {
				t.Errorf("RunLines %q: %q, %d", line, said, code)
			}
		}
	}
}

// All rows of up to three words behind each first word, each by itself.
func TestEachRowOfWordsOnConsoles(t *testing.T) {
	firsts := []string{"#", "go", "get", "world", "node", "view", "put", "delete", "deliver", "crash", "torn", "poll", "takeover"}
	more := []string{"0", "1", "2", "3", "01", "a", "A", "#", "blind"}
	var lines []string
	var ask func(line string, words int)
	ask = func(line string, words int) {
		lines = append(lines, line)
		if words == 0 {
			return
		}
		for _, word := range more {
			ask(line+" "+word, words-1)
		}
	}
	for _, first := range firsts {
		ask(first, 3)
	}
	eachAsTold(t, lines)
}

// How a text's lines are told apart: by hand.
func TestLinesOfTexts(t *testing.T) {
	form := "error form\n"
	for text, want := range map[string]string{
		"": "", "\n": "", "\n\n\n": "", strings.Repeat("\n", impl.MaxLines): "", " ": "", " \n ": "", "#": "", "#\n#": "",
		"view": "rows 0\n", "view\n": "rows 0\n", "view\n\n": "rows 0\n", "\nview": "rows 0\n", "\n\nview\n": "rows 0\n", "view\nview": "rows 0\nrows 0\n", "view\nview\n": "rows 0\nrows 0\n", "view\n\nview": "rows 0\nrows 0\n",
		"put 0 a 5\nget a 1": "ok\n1.0.0 5\n", "put 0 a 5\nget a 1\n": "ok\n1.0.0 5\n", "# put 0 a 5\nget a 1": "0.0.0\n", "#\nput 0 a 5\n#\nget a 1\n#": "ok\n1.0.0 5\n",
		"view\r\n": form, "view\r": form, "\r\n": form, "\r": form, "\r\nview\n": form + "rows 0\n", "view\rview": form, "view\x00": form, "view\u2028view": form, "view\u0085": form, "view\x0bview": form, "view\x0cview\n": form, "view;view": form, "view\\nview": form,
		"\x00": form, "\n\x00": form, "\xff\n": form, "\n\n \n\t": form, "put 0\na 5": form + form, "pu\nt 0 a 5\n": form + form,
	} {
		if said, code := impl.Console(text); said != want || code != impl.OK {
			t.Errorf("Console %q: %q, %d, not %q", text, said, code, want)
		}
	}
	if said, code := impl.Console("world\nnode 0"); said != "node 0 up events 0 keys 0\nnode 1 up events 0 keys 0\nnode 2 up events 0 keys 0\nnet 0 hints 0\ngroup epoch 1 owner 0 acked 0.0.0\nnode 0 events 0 cut 0 lines 0\n" || code != impl.OK {
		t.Errorf("Console %q, %d", said, code)
	}
}

// linesRefused asks a code beside which all is zero.
func linesRefused(t *testing.T, lines []string, want int) {
	t.Helper()
	if w, said, code := impl.RunLines(lines); !isZeroWorld(w) || len(said) > 0 || code != want {
		t.Error("RunLines of", len(lines), short(w), short(said), code, "not", want)
	}
}

func textRefused(t *testing.T, text string, want int) {
	t.Helper()
	if said, code := impl.Console(text); said != "" || code != want {
		t.Errorf("Console of %d: %.200q, %d, not %d", len(text), said, code, want)
	}
}

// As many lines as there may be, and one more, whatever they say.
func TestMaxLines(t *testing.T) {
	for _, lines := range [][]string{{"put 0 a 5"}, {""}, {"#"}, {" "}, {"go"}, {"put 0 a 5 blind", "get a 1", "deliver 0"}, {"#", "world"}, {"crash 0", "node 0", "back 0", "view", ""}} {
		many := slices.Repeat(lines, impl.MaxLines+2)
		for _, n := range []int{1, impl.MaxLines - 1, impl.MaxLines} {
			linesAsTold(t, many[:n]...)
		}
		for _, n := range []int{impl.MaxLines + 1, impl.MaxLines + 2} {
			for _, last := range []string{many[n-1], "", "view", "x", strings.Repeat("x", impl.MaxText+1)} {
				linesRefused(t, append(slices.Clone(many[:n-1]), last), impl.ErrMany)
				if len(last) > impl.MaxText {
					continue
				}
				text := textOf(many[:n-1])
				textRefused(t, text+last+"\n", impl.ErrMany)
				if last != "" {
					textRefused(t, text+last, impl.ErrMany)
				}
			}
		}
		// behind the last byte 10 there is no line
		if said, code := impl.Console(textOf(many[:impl.MaxLines])); code != impl.OK || strings.Count(said, "ok") > impl.MaxLines {
			t.Error("Console", said, code)
		}
	}
	// lists and texts that are too long by another rule: what is long is told ahead of what is many
	for _, line := range []string{"", "#", "view", "put 0 a 5", "x"} {
		for n, want := range map[int]int{impl.MaxList - 1: impl.ErrMany, impl.MaxList: impl.ErrMany, impl.MaxList + 1: impl.ErrLong, 2 * impl.MaxList: impl.ErrLong, impl.MaxText + 1: impl.ErrLong} {
			linesRefused(t, slices.Repeat([]string{line}, n), want)
		}
		for _, n := range []int{impl.MaxList - 1, impl.MaxList, impl.MaxList + 1, 2 * impl.MaxList} {
			if text := strings.Repeat(line+"\n", n); len(text) < impl.MaxText {
				textRefused(t, text, impl.ErrMany)
				textRefused(t, text+"x", impl.ErrMany)
			} else {
				textRefused(t, text, impl.ErrLong)
			}
		}
	}
	textRefused(t, strings.Repeat("\n", impl.MaxText-1), impl.ErrMany)
	textRefused(t, strings.Repeat("\n", impl.MaxText), impl.ErrMany)
	for _, with := range []string{"\n", " ", "x", "#", "\x00", "view\n", "put 0 a 5\n"} {
		for _, n := range []int{impl.MaxText + 1, 2 * impl.MaxText} {
			textRefused(t, strings.Repeat(with, n)[:n], impl.ErrLong)
		}
	}
}

// linesOfLength has lines that all say what the text says, of so many bytes.
func linesOfLength(text string, n int) []string {
	blanks := strings.Repeat(" ", n-len(text))
	return []string{text + blanks, blanks + text, strings.Replace(text, " ", blanks+" ", 1) + strings.Repeat(" ", max(0, len(blanks)*(1-strings.Count(text, " "))))}
}

// No rule bounds one line: with many blanks it says what it says with few, and what is long otherwise is none.
func TestLongLinesOfConsoles(t *testing.T) {
	texts := append(slices.Clone(actTexts), "put 0 a 5", "get a 2", "world", "node 1", "view", "#", "go", "get a 3", "put 3 a 5")
	for _, text := range texts {
		_, want := linesAsTold(t, "put 0 a 5", text)
		for _, n := range []int{impl.MaxText - 1, impl.MaxText, impl.MaxText + 1, 2 * impl.MaxText} {
			for _, line := range linesOfLength(text, n) {
				if _, said, code := impl.RunLines([]string{"put 0 a 5", line}); !slices.Equal(said, want) || code != impl.OK {
					t.Errorf("RunLines %q of %d bytes: %.200q, %d, not %q", text, len(line), said, code, want)
				}
			}
		}
	}
	for _, n := range []int{impl.MaxText - 1, impl.MaxText, impl.MaxText + 1, 2 * impl.MaxText} {
		for _, line := range []string{strings.Repeat("#", n), "#" + strings.Repeat(" x", n/2), strings.Repeat(" ", n), strings.Repeat(" ", n-1) + "#"} {
			if w, said, code := impl.RunLines([]string{line, "view"}); !slices.Equal(said, []string{"rows 0"}) || code != impl.OK || !alikeWorlds(w, newPlainWorld(t).world()) {
				t.Errorf("RunLines %.20q of %d bytes: %.200q, %d", line, len(line), said, code)
			}
		}
		for _, line := range []string{strings.Repeat("x", n), strings.Repeat("0", n), strings.Repeat("put ", n/4), "put 0 a " + strings.Repeat("0", n), "put 0 a 1" + strings.Repeat("0", n), "put 0 " + strings.Repeat("a", n) + " 5", "get a " + strings.Repeat("0", n) + "1",
			"get " + strings.Repeat("a", n) + " 1", "node " + strings.Repeat("9", n), "node 0" + strings.Repeat(" 0", n), "world" + strings.Repeat("d", n), strings.Repeat("\x00", n), strings.Repeat("\xff", n), "put 0 a 5 " + strings.Repeat("blind ", n)} {
			if w, said, code := impl.RunLines([]string{line, "view"}); !slices.Equal(said, []string{"error form", "rows 0"}) || code != impl.OK || !alikeWorlds(w, newPlainWorld(t).world()) {
				t.Errorf("RunLines %.20q of %d bytes: %.200q, %d", line, len(line), said, code)
			}
		}
	}
}

// Texts as long as they may be, of one long line or of many.
func TestLongTextsOfConsoles(t *testing.T) {
	for _, text := range append(slices.Clone(actTexts), "get a 2", "world", "node 1", "view", "#", "go") {
		_, want := linesAsTold(t, "put 0 a 5", text)
		ahead := "put 0 a 5\n"
		for _, line := range linesOfLength(text, impl.MaxText-len(ahead)) {
			consoleAsTold(t, ahead+line, want)
			textRefused(t, ahead+line+"\n", impl.ErrLong)
			textRefused(t, ahead+line+" ", impl.ErrLong)
		}
		for _, line := range linesOfLength(text, impl.MaxText-len(ahead)-1) {
			consoleAsTold(t, ahead+line+"\n", want)
			textRefused(t, ahead+line+"\n\n", impl.ErrLong)
			textRefused(t, ahead+line+"\nx", impl.ErrLong)
		}
	}
	lines := slices.Repeat([]string{"put 0 a 5" + strings.Repeat(" ", 1082)}, impl.MaxLines)
	text := textOf(lines)
	text += strings.Repeat(" ", impl.MaxText-len(text))
	textRefused(t, text, impl.ErrMany) // the blanks behind the last byte 10 are a line
	textRefused(t, text+" ", impl.ErrLong)
	consoleAsTold(t, strings.Repeat(" ", impl.MaxText-len(textOf(lines)))+textOf(lines), slices.Repeat([]string{"ok"}, impl.MaxLines))
}

// As much as lines can make a console say.
func TestMuchIsSaid(t *testing.T) {
	var lines []string
	for n := range 40 {
		lines = append(lines, fmt.Sprintf("put %d a %d blind", n%2, 999-n))
	}
	lines = append(lines, "exchange 0 0", "poll 0 100")
	for len(lines) < impl.MaxLines {
		lines = append(lines, []string{"node 0", "get a 2", "world", "view", "node 1"}[len(lines)%5])
	}
	_, said := linesAsTold(t, lines...)
	if len(said) < 90 || len(textOf(said)) < 3000 {
		t.Error(len(said), len(textOf(said)))
	}
}
