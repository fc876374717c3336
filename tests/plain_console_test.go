package tests

import (
	"fmt"
	"regexp"
	"slices"
	"strconv"
	"strings"
	"testing"

	"loop.example/g00535/impl"
)

// What chapter 17 asks, worked out from a plain world, and by patterns of lines.

var (
	muteForm    = regexp.MustCompile(`(?s)\A *(#.*)?\z`)
	getLineForm = regexp.MustCompile(`\A *get +` + keyWord + ` +([12]) *\z`)
	nodeForm    = regexp.MustCompile(`\A *node +` + nodeWord + ` *\z`)
	worldForm   = regexp.MustCompile(`\A *world *\z`)
	viewForm    = regexp.MustCompile(`\A *view *\z`)
)

// errorTold has the code's word from the table of chapter 1.
func errorTold(code int) []string { return []string{"error " + codeTable[code].word} }

// lineTold answers what is said to a line, and the plain world that is there then.
func (w plainWorld) lineTold(t *testing.T, line string) (plainWorld, []string) {
	t.Helper()
	switch {
	case muteForm.MatchString(line):
		return w, nil
	case worldForm.MatchString(line):
		return w, w.textTold()
	case viewForm.MatchString(line):
		return w, viewLinesTold(w.rows)
	}
	if m := getLineForm.FindStringSubmatch(line); m != nil {
		return w, w.replyTold(m[1], m[2])
	}
	if m := nodeForm.FindStringSubmatch(line); m != nil {
		id, _ := strconv.Atoi(m[1])
		text, _ := nodeTextTold(givenNode{w.cluster().Nodes[id], true})
		return w, text
	}
	s, ok := actTold(line)
	if !ok {
		return w, errorTold(impl.ErrForm)
	}
	w, code := w.done(t, s)
	if code != impl.OK {
		return w, errorTold(code)
	}
	return w, []string{"ok"}
}

func (w plainWorld) replyTold(key, replicas string) []string {
	r, _ := strconv.Atoi(replicas)
	want := w.get(key, r)
	if want.code != impl.OK {
		return errorTold(want.code)
	}
	text := vvTold(want.obj.Seen)
	for _, s := range want.obj.Sibs {
		if !s.Dead {
			text += fmt.Sprintf(" %d", s.Value)
		}
	}
	return []string{text}
}

func viewLinesTold(rows []row) []string {
	var text []string
	for _, r := range rows {
		text = append(text, fmt.Sprintf("part %d %s %s", r.Part, r.Key, strings.Trim(fmt.Sprint(r.Values), "[]")))
	}
	return append(text, fmt.Sprintf("rows %d", len(rows)))
}

// linesTold answers all that is said to lines on a new world, and the world behind them.
func linesTold(t *testing.T, lines []string) (plainWorld, []string) {
	t.Helper()
	w := newPlainWorld(t)
	var all []string
	for _, line := range lines {
		next, said := w.lineTold(t, line)
		w, all = next, append(all, said...)
	}
	return w, all
}

// textOf has a byte 10 behind each line.
func textOf(lines []string) string {
	var text strings.Builder
	for _, line := range lines {
		text.WriteString(line + "\n")
	}
	return text.String()
}

// linesAsTold hands lines to both calls, if a text can have them, and answers the plain world and what was said.
func linesAsTold(t *testing.T, lines ...string) (plainWorld, []string) {
	t.Helper()
	w, want := linesTold(t, lines)
	was := slices.Clone(lines)
	got, said, code := impl.RunLines(lines)
	if !slices.Equal(said, want) || code != impl.OK {
		t.Fatalf("RunLines %.900q: %.900q, %d, not %.900q", lines, said, code, want)
	}
	if !alikeWorlds(got, w.world()) || !impl.WorldOK(got) {
		t.Fatalf("RunLines %.900q: %s, not %s", lines, short(got), short(w.world()))
	}
	if !slices.Equal(lines, was) {
		t.Fatalf("RunLines changes %.900q to %.900q", was, lines)
	}
	if text := textOf(lines); len(text) <= impl.MaxText && strings.Count(text, "\n") == len(lines) {
		consoleAsTold(t, text, want)
		if len(lines) > 0 && lines[len(lines)-1] != "" {
			consoleAsTold(t, text[:len(text)-1], want)
		}
	}
	return w, said
}

func consoleAsTold(t *testing.T, text string, want []string) {
	t.Helper()
	if said, code := impl.Console(text); said != textOf(want) || code != impl.OK {
		t.Fatalf("Console %.900q: %.900q, %d, not %.900q", text, said, code, want)
	}
}

// eachAsTold hands lines that each say something by themselves to as few consoles as they need. Behind each of them the world
// goes on, as it does in a console.
func eachAsTold(t *testing.T, lines []string) {
	t.Helper()
	for part := range slices.Chunk(lines, impl.MaxLines) {
		linesAsTold(t, part...)
	}
}
