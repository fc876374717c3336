package tests

import (
	"fmt"
	"math"
	"slices"
	"strings"
	"testing"

	"loop.example/g00535/impl"
)

// Each kind of act at the least and the greatest of each of its numbers, and with the shortest and the longest key.
func TestActsAreReadByHand(t *testing.T) {
	for text, want := range map[string]step{
		"put 0 a 0":                {Kind: impl.AcPut, Key: "a"},
		"put 2 zzzzzz 999":         {Kind: impl.AcPut, Node: 2, Key: "zzzzzz", Value: 999},
		"put 0 a 0 blind":          {Kind: impl.AcPut, Key: "a", Blind: true},
		"put 2 zzzzzz 999 blind":   {Kind: impl.AcPut, Node: 2, Key: "zzzzzz", Value: 999, Blind: true},
		"delete 0 a":               {Kind: impl.AcDelete, Key: "a"},
		"delete 2 zzzzzz":          {Kind: impl.AcDelete, Node: 2, Key: "zzzzzz"},
		"delete 0 a blind":         {Kind: impl.AcDelete, Key: "a", Blind: true},
		"delete 2 zzzzzz blind":    {Kind: impl.AcDelete, Node: 2, Key: "zzzzzz", Blind: true},
		"deliver 0":                {Kind: impl.AcDeliver},
		"deliver 100":              {Kind: impl.AcDeliver, N: 100},
		"drop 0":                   {Kind: impl.AcDrop},
		"drop 100":                 {Kind: impl.AcDrop, N: 100},
		"twice 0":                  {Kind: impl.AcTwice},
		"twice 100":                {Kind: impl.AcTwice, N: 100},
		"crash 0":                  {Kind: impl.AcCrash},
		"crash 2":                  {Kind: impl.AcCrash, Node: 2},
		"back 0":                   {Kind: impl.AcBack},
		"back 2":                   {Kind: impl.AcBack, Node: 2},
		"torn 0 a 0 0 0":           {Kind: impl.AcTorn, Key: "a"},
		"torn 2 zzzzzz 999 100 99": {Kind: impl.AcTorn, Node: 2, Key: "zzzzzz", Value: 999, Keep: 100, N: 99},
		"torn 1 put 7 8 100":       {Kind: impl.AcTorn, Node: 1, Key: "put", Value: 7, Keep: 8, N: 100},
		"exchange 0 0":             {Kind: impl.AcExchange},
		"exchange 2 100":           {Kind: impl.AcExchange, Node: 2, N: 100},
		"handoff 0":                {Kind: impl.AcHandoff},
		"handoff 2":                {Kind: impl.AcHandoff, Node: 2},
		"poll 0 0":                 {Kind: impl.AcPoll},
		"poll 2 100":               {Kind: impl.AcPoll, Node: 2, N: 100},
		"takeover 0":               {Kind: impl.AcTakeover},
		"takeover 2":               {Kind: impl.AcTakeover, Node: 2},
		"cut 0 0":                  {Kind: impl.AcCut},
		"cut 2 100":                {Kind: impl.AcCut, Node: 2, N: 100},
		"resync 0":                 {Kind: impl.AcResync},
		"resync 2":                 {Kind: impl.AcResync, Node: 2},
		// blanks ahead, between and behind
		" put 1 key 12": {Kind: impl.AcPut, Node: 1, Key: "key", Value: 12}, "put 1 key 12 ": {Kind: impl.AcPut, Node: 1, Key: "key", Value: 12},
		"put  1 key 12": {Kind: impl.AcPut, Node: 1, Key: "key", Value: 12}, "   put   1   key   12   blind   ": {Kind: impl.AcPut, Node: 1, Key: "key", Value: 12, Blind: true},
		"  crash  1  ": {Kind: impl.AcCrash, Node: 1}, "deliver  7": {Kind: impl.AcDeliver, N: 7}, " delete 1  blind blind": {Kind: impl.AcDelete, Node: 1, Key: "blind", Blind: true},
		// words that say something elsewhere are keys where a key stands
		"put 0 blind 5": {Kind: impl.AcPut, Key: "blind", Value: 5}, "put 0 blind 5 blind": {Kind: impl.AcPut, Key: "blind", Value: 5, Blind: true},
		"delete 0 blind blind": {Kind: impl.AcDelete, Key: "blind", Blind: true}, "torn 0 blind 1 2 3": {Kind: impl.AcTorn, Key: "blind", Value: 1, Keep: 2, N: 3},
		"put 0 put 5": {Kind: impl.AcPut, Key: "put", Value: 5}, "delete 0 delete": {Kind: impl.AcDelete, Key: "delete"}, "put 1 twice 100 blind": {Kind: impl.AcPut, Node: 1, Key: "twice", Value: 100, Blind: true},
	} {
		if got, code := impl.ReadAct(text); got != want || code != impl.OK || !impl.ActOK(got) {
			t.Errorf("ReadAct %q: %+v, %d, not %+v", text, got, code, want)
		}
		readActAsTold(t, text)
	}
}

// Texts that are no acts, told by hand.
var noActs = []string{
	// no word at all
	"", " ", "     ", strings.Repeat(" ", impl.MaxText),
	// a word too few
	"put", "put 0", "put 0 a", "put blind", "put 0 blind", "put 0 a blind", "delete", "delete 0", "delete blind", "delete 0 blind", "deliver", "drop", "twice", "crash", "back", "torn",
	"torn 0", "torn 0 a", "torn 0 a 1", "torn 0 a 1 2", "exchange", "exchange 0", "handoff", "poll", "poll 0", "takeover", "cut", "cut 0", "resync", "put a 5", "put 0 5",
	// a word too many
	"put 0 a 5 6", "put 0 a 5 a", "put 0 a 5 6 blind", "put 0 a b 5", "put 0 0 a 5", "delete 0 a 0", "delete 0 a a", "delete 0 a 0 blind", "deliver 0 0", "drop 0 0", "twice 0 0",
	"crash 0 0", "crash 0 0 0", "back 0 0", "torn 0 a 1 2 3 4", "exchange 0 0 0", "handoff 0 0", "poll 0 0 0", "takeover 0 0", "cut 0 0 0", "resync 0 0", "put 0 a 5 #", "#put 0 a 5",
	// blind where it is none, or once too often, or not last
	"deliver 0 blind", "drop 0 blind", "twice 0 blind", "crash 0 blind", "back 0 blind", "torn 0 a 1 2 3 blind", "exchange 0 0 blind", "handoff 0 blind", "poll 0 0 blind", "takeover 0 blind",
	"cut 0 0 blind", "resync 0 blind", "put 0 a 5 blind blind", "delete 0 a blind blind", "delete 0 blind blind blind", "put 0 a blind 5", "put blind 0 a 5", "blind put 0 a 5", "blind",
	"delete blind 0 a", "put 0 a 5 Blind", "put 0 a 5 blin", "put 0 a 5 blinds", "put 0 a 5blind", "delete 0 a BLIND", "deliver blind", "poll 0 blind", "put 0 a 5 blind 6",
	// first words that are none, in great letters, or the beginning of one
	"go 1", "get a 1", "world", "node 0", "view", "1", "0", "a", "Put 0 a 5", "PUT 0 a 5", "pu 0 a 5", "p 0 a 5", "puts 0 a 5", "DELETE 0 a", "delet 0 a", "deleted 0 a", "deli 0", "Deliver 0",
	"dro 0", "twic 0", "cras 0", "Crash 0", "bac 0", "tor 0 a 1 2 3", "exchang 0 0", "hand 0", "handof 0", "pol 0 0", "take 0", "takeove 0", "cu 0 0", "resyn 0", "re 0", "put0 a 5", "crash0", "deliver0",
	"pull 0 0", "cat 0 0", "putt", "ok", "error", "0 put a 5", "AcPut 0 a 5", "6 0",
}

func TestTextsThatAreNoActs(t *testing.T) {
	for _, text := range noActs {
		if got, code := impl.ReadAct(text); got != (step{}) || code != impl.ErrForm {
			t.Errorf("ReadAct %.200q: %+v, %d", text, got, code)
		}
		readActAsTold(t, text)
	}
}

// A text of each kind, and in the place of each of its words others, right and wrong ones.
var actTexts = []string{"put 1 key 12", "put 0 a 7 blind", "delete 2 b", "delete 0 key blind", "deliver 7", "drop 3", "twice 9", "crash 1", "back 2", "torn 1 a 5 2 30", "exchange 0 1",
	"handoff 2", "poll 1 9", "takeover 0", "cut 2 4", "resync 1"}

// Numbers as they may stand, at and beyond the bounds of each field; numbers with a 0 or a sign ahead, with something else
// in them, with nothing in them, and with more digits than an integer has.
func numberWords() []string {
	words := []string{"00", "01", "02", "001", "007", "0100", "099", "-0", "-1", "-2", "+0", "+1", "+2", "1.0", "1,", "1_0", "0x1", "0b1", "0o1", "1e1", "1a", "a1", "1-", "--1", "-", "+", "x", "l", "O", "\"1\"", "1\x00",
		"\x001", "\u0661", "\uff11", "\u00b2", "1\xff", "\xff", "18446744073709551616", "18446744073709551617", "9223372036854775807", "9223372036854775808", "-9223372036854775808",
		"4294967296", "4294967297", "99999999999999999", "999999999999999999", "1000000000000000000", strings.Repeat("9", 100), strings.Repeat("1", 400), strings.Repeat("0", 20), "1" + strings.Repeat("0", 30)}
	for _, n := range []int{0, 1, 2, 3, 4, 9, 10, 11, 59, 60, 79, 80, 98, 99, 100, 101, 102, 109, 110, 199, 200, 255, 256, 257, 300, 899, 900, 998, 999, 1000, 1001, 1999, 2000, 9998, 9999, 10000, 65536, 100000, math.MaxInt32, math.MaxInt} {
		words = append(words, fmt.Sprint(n))
	}
	return words
}

func TestActsWithOtherWords(t *testing.T) {
	words := append(numberWords(), rightKeys...)
	for _, key := range append(slices.Clone(wrongKeys), "blind", "blinds", "Blind", "aaaaaa", "aaaaaaa", "ab1", "aXb", "key=", "#", "!", "") {
		if len(key) < 100 {
			words = append(words, key)
		}
	}
	for word := range stepWords {
		words = append(words, word, strings.ToUpper(word), word[:len(word)-1], word+"s", word+"1", word[1:], strings.ToUpper(word[:1])+word[1:])
	}
	read := 0
	for _, text := range actTexts {
		parts := strings.Fields(text)
		for at := range parts {
			for _, word := range words {
				for _, last := range []string{"", " blind", " 1", " a"} {
					_, code := readActAsTold(t, strings.Join(slices.Concat(parts[:at], []string{word}, parts[at+1:]), " ")+last)
					if code == impl.OK {
						read++
					}
				}
			}
		}
	}
	if read < 500 { // else it would show little
		t.Error("read:", read)
	}
}

// The most that each number of an act may be, and one more.
func TestBoundsOfActs(t *testing.T) {
	for _, c := range []struct {
		form string
		most int
	}{
		{"put %d a 5", 2}, {"put %d a 5 blind", 2}, {"put 0 a %d", 999}, {"put 0 a %d blind", 999}, {"delete %d a", 2}, {"delete %d a blind", 2}, {"deliver %d", 100}, {"drop %d", 100},
		{"twice %d", 100}, {"crash %d", 2}, {"back %d", 2}, {"torn %d a 1 2 3", 2}, {"torn 0 a %d 2 3", 999}, {"torn 0 a 1 %d 3", 100}, {"torn 0 a 1 2 %d", 100}, {"exchange %d 0", 2},
		{"exchange 0 %d", 100}, {"handoff %d", 2}, {"poll %d 0", 2}, {"poll 0 %d", 100}, {"takeover %d", 2}, {"cut %d 0", 2}, {"cut 0 %d", 100}, {"resync %d", 2},
	} {
		for n := -2; n <= 1200; n++ {
			text := fmt.Sprintf(c.form, n)
			if _, code := readActAsTold(t, text); (code == impl.OK) != between(0, n, c.most) {
				t.Error("ReadAct", text, code)
			}
		}
	}
}

// Right texts with each byte left out, doubled, put in and put in another one's place: each byte there is.
func TestActsThatAreNearlyRight(t *testing.T) {
	for _, text := range append(slices.Clone(actTexts), "put 2 abcdef 999 blind", "delete 0 blind blind", "torn 0 zzzzzz 999 100 100") {
		if _, code := readActAsTold(t, text); code != impl.OK {
			t.Error("ReadAct", text, code)
		}
		for at := range len(text) + 1 {
			for b := range 256 {
				one := string([]byte{byte(b)})
				readActAsTold(t, text[:at]+one+text[at:])
				if at < len(text) {
					readActAsTold(t, text[:at]+one+text[at+1:])
				}
			}
			for end := at; end <= len(text); end++ {
				readActAsTold(t, text[:at]+text[end:])
				readActAsTold(t, text[:end]+text[at:])
			}
		}
	}
}

// Between words nothing but blanks stands: no tabulator, no end of a line, no other blank.
func TestBytesBetweenWords(t *testing.T) {
	for _, text := range actTexts {
		for b := range 256 {
			between := string([]byte{byte(b)})
			for _, each := range []string{strings.ReplaceAll(text, " ", between), strings.Replace(text, " ", between, 1), between + text, text + between, strings.Replace(text, " ", " "+between, 1),
				strings.Replace(text, " ", between+" ", 1), strings.Replace(text, " ", " "+between+" ", 1)} {
				got, code := readActAsTold(t, each)
				if want, _ := readActTold(text); b == ' ' && (got != want || code != impl.OK) || slices.Contains([]int{0, 9, 10, 11, 12, 13, 133, 160, 255}, b) && code != impl.ErrForm {
					t.Errorf("ReadAct %q: %+v, %d", each, got, code)
				}
			}
		}
		for _, between := range []string{"\u00a0", "\u2003", "\u3000", "\u0085", "\u2028", "\r\n", "\t ", " \t", " \n ", "%20", "_", ".", ",", "|", ";"} {
			if got, code := impl.ReadAct(strings.Replace(text, " ", between, 1)); got != (step{}) || code != impl.ErrForm {
				t.Errorf("ReadAct %q: %+v, %d", strings.Replace(text, " ", between, 1), got, code)
			}
		}
	}
}

// All rows of up to four words behind each first word.
func TestEachRowOfWords(t *testing.T) {
	firsts := []string{"", "blind", "putt", "Put"}
	for word := range stepWords {
		firsts = append(firsts, word)
	}
	more := []string{"0", "2", "3", "100", "101", "a", "blind", "A", "01"}
	read := 0
	var ask func(text string, words int)
	ask = func(text string, words int) {
		if _, code := readActAsTold(t, text); code == impl.OK {
			read++
		}
		if words == 0 {
			return
		}
		for _, word := range more {
			ask(text+" "+word, words-1)
		}
	}
	for _, first := range firsts {
		ask(first, 4)
	}
	if read < 80 { // else it would show little
		t.Error("read:", read)
	}
}

// Acts that are read are right, and their text says them whole: told once more they are read alike.
func TestActsComeBackFromTheirTexts(t *testing.T) {
	came := map[int]int{}
	for _, s := range append(stepsAround(), stepsOfAllKinds()...) {
		if !stepRight(s) || len(s.Key) == 0 && slices.Contains([]int{impl.AcPut, impl.AcDelete, impl.AcTorn}, s.Kind) {
			continue
		}
		s.Blind = s.Blind && (s.Kind == impl.AcPut || s.Kind == impl.AcDelete)
		text := stepTold(s)
		want := stepIn(text)
		got, code := readActAsTold(t, text)
		if got != want || code != impl.OK || stepTold(got) != text {
			t.Fatalf("ReadAct %q: %+v, %d, not %+v", text, got, code, want)
		}
		for _, each := range []string{" " + text, text + " ", strings.ReplaceAll(text, " ", "   ")} {
			if again, code := readActAsTold(t, each); again != got || code != impl.OK {
				t.Fatalf("ReadAct %q: %+v, %d, not %+v", each, again, code, got)
			}
		}
		came[s.Kind]++
	}
	for kind := 1; kind <= 14; kind++ {
		if came[kind] < 3 {
			t.Error("acts of kind", kind, came[kind])
		}
	}
}

// What is read does what the act does.
func TestActsThatWereReadAreDone(t *testing.T) {
	for seed := range uint32(10) {
		r := newWorldRun(t, seed+70)
		var read []step
		for range impl.MaxActs {
			s := r.drawStep()
			if s.Key == "" {
				s.Key = "a"
			}
			s.Blind = s.Blind && (s.Kind == impl.AcPut || s.Kind == impl.AcDelete)
			next, code := r.done(t, s)
			r.plainWorld, r.codes = next, append(r.codes, code)
			s, code = impl.ReadAct(stepTold(s))
			if code != impl.OK {
				t.Fatal("ReadAct", stepTold(s), code)
			}
			read = append(read, s)
		}
		got, codes, code := impl.WorldRun(read)
		if !alikeWorlds(got, r.world()) || !slices.Equal(codes, r.codes) || code != impl.OK {
			t.Fatal("WorldRun of what was read", short(read), short(got), codes, code, "not", short(r.world()), r.codes)
		}
	}
}

// Texts of MaxText bytes are read, or are none; with one byte more they are long, whatever they say.
func TestLongTextsOfActs(t *testing.T) {
	filled := func(text, with string, many int) string { return text + strings.Repeat(with, many-len(text)) }
	for _, text := range actTexts {
		want, _ := readActTold(text)
		blanks := filled(text, " ", impl.MaxText)
		ahead := strings.Repeat(" ", impl.MaxText-len(text)) + text
		within := strings.Replace(text, " ", strings.Repeat(" ", impl.MaxText-len(text)+1), 1)
		for _, each := range []string{blanks, ahead, within} {
			if got, code := impl.ReadAct(each); got != want || code != impl.OK || len(each) != impl.MaxText {
				t.Errorf("ReadAct of %q with many blanks: %+v, %d", text, got, code)
			}
			for _, long := range []string{each + " ", " " + each, each + each, each + "x"} {
				if got, code := impl.ReadAct(long); got != (step{}) || code != impl.ErrLong {
					t.Errorf("ReadAct of %q, too long: %+v, %d", text, got, code)
				}
			}
		}
		for _, with := range []string{"0", "9", "a", " 1", "  a ", "\x00", "\xff", " blind"} {
			many := (impl.MaxText - len(text)) / len(with)
			none := text + strings.Repeat(with, many)
			if got, code := impl.ReadAct(none); got != (step{}) || code != impl.ErrForm {
				t.Errorf("ReadAct of %q and many %q: %+v, %d", text, with, got, code)
			}
		}
	}
	for _, long := range []string{strings.Repeat(" ", impl.MaxText+1), strings.Repeat("put 0 a 5 ", impl.MaxText), strings.Repeat("9", impl.MaxText+1), strings.Repeat("\xff", 2*impl.MaxText), longKeys[0]} {
		if got, code := impl.ReadAct(long); got != (step{}) || code != impl.ErrLong {
			t.Errorf("ReadAct of what is too long: %+v, %d", got, code)
		}
	}
}
