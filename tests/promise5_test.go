package tests

import (
	"fmt"
	"regexp"
	"slices"
	"strconv"
	"strings"
	"testing"

	"loop.example/g00535/impl"
)

// Promise 5: lines that are sure survive; a line that is cut is none, wherever it is cut.

// Texts whose beginnings could be taken for a line's own numbers, or for a sealed line.
func trickyTexts() []string {
	texts := []string{"", "a", "ab", ":", "::", ":::", "0", "0:", "0:0", "0:0:", "1", "1:", "1:1:", "1:50:1", "2:296:ab", "98:a", "296:ab", "12:34:56",
		"\x00", "\x00\x00\x00", "\xff", "\xff\xfe\x80", "\n", "\r\n", " ", "put key 1.0.0|a1=5", "\u00e4\u20ac", strings.Repeat("9", 20),
		strings.Repeat(":", 40), strings.Repeat("0:0:", 30), strings.Repeat("\x00", 200), strings.Repeat("\xff", 8) + "R\x00"}
	nested := "ab"
	for range 5 {
		nested = sealTold(nested)
		texts = append(texts, nested, nested+nested, nested[:len(nested)-1])
	}
	for size := range 120 {
		texts = append(texts, strings.Repeat("1:", 60)[:size])
	}
	return texts
}

func TestALineThatIsCutIsNone(t *testing.T) {
	for _, text := range trickyTexts() {
		line, code := impl.SealLine(text)
		if line != sealTold(text) || code != impl.OK {
			t.Fatalf("SealLine(%q) = %q, %d", text, line, code)
		}
		for cut := range len(line) {
			if got, code := impl.OpenLine(line[:cut]); got != "" || code != impl.ErrSum {
				t.Fatalf("OpenLine(%q), cut off %q, = %q, %d", line[:cut], line, got, code)
			}
		}
		if got, code := impl.OpenLine(line); got != text || code != impl.OK {
			t.Fatalf("OpenLine(%q) = %q, %d", line, got, code)
		}
	}
}

// A crash that tears the next line at each of its places: the lines ahead of it come back, and it does only as a whole.
func TestATornLineIsNone(t *testing.T) {
	for _, text := range trickyTexts() {
		d, _ := impl.Append(disk{}, "sure")
		d, _ = impl.Sync(d)
		for _, more := range []string{"kept", text, "gone"} {
			d, _ = impl.Append(d, more)
		}
		size := len(sealTold(text))
		for torn := range size + 3 {
			comesBack(t, d, 0, min(torn, len(sealTold("kept"))-1), "sure")
			want := []string{"sure", "kept"}
			if torn >= size {
				want = append(want, text)
			}
			comesBack(t, d, 1, torn, want...)
		}
		comesBack(t, d, 2, 0, "sure", "kept", text)
		comesBack(t, d, 3, 0, "sure", "kept", text, "gone")
		comesBack(t, d, impl.MaxRecords, impl.MaxText, "sure", "kept", text, "gone")
	}
}

func comesBack(t *testing.T, d disk, keep, torn int, want ...string) {
	t.Helper()
	crashed, code := impl.CrashDisk(d, keep, torn)
	if code != impl.OK || len(crashed.Unsure) != 0 {
		t.Fatalf("CrashDisk(%q, %d, %d) = %q, %d", d, keep, torn, crashed, code)
	}
	if got, code := impl.Recover(crashed); !slices.Equal(got, want) || code != impl.OK {
		t.Fatalf("Recover(CrashDisk(%q, %d, %d)) = %q, %d, not %q", d, keep, torn, got, code, want)
	}
}

// The longest text's line is longer than what a crash leaves of it at most: it is none, but kept it is there.
func TestTheLongestLineIsCut(t *testing.T) {
	for _, fill := range []string{"\x00", "0:0:", "\xff"} {
		text := strings.Repeat(fill, impl.MaxText)[:impl.MaxText]
		d, code := impl.Append(disk{Sure: sealedLines("sure")}, text)
		if code != impl.OK {
			t.Fatal("Append", code)
		}
		for _, torn := range []int{0, 1, 5, 6, 7, 8, 9, 10, 11, 12, 13, 1000, impl.MaxText - 1, impl.MaxText} {
			comesBack(t, d, 0, torn, "sure")
		}
		comesBack(t, d, 1, 0, "sure", text)
		comesBack(t, d, 1, impl.MaxText, "sure", text)
		line := d.Unsure[0]
		for _, cut := range []int{len(line) - 1, len(line) - 2, impl.MaxText + 1} {
			if got, code := impl.Recover(disk{Sure: []string{line[:cut]}}); len(got) != 0 || code != impl.OK {
				t.Errorf("Recover of %d bytes of %d: %d lines, %d", cut, len(line), len(got), code)
			}
		}
	}
}

// A run of appends, syncs and crashes, and beside it what is to come of each text.
type record struct {
	text       string
	sure, torn bool
}

type diskRun struct {
	history
	disk
	records []record
}

func (r *diskRun) append(t *testing.T, text string) {
	t.Helper()
	d, code := impl.Append(r.disk, text)
	if len(r.records) == impl.MaxRecords {
		if !alikeDisks(d, r.disk) || code != impl.ErrFull {
			t.Fatal("Append to a full disk", code)
		}
		return
	}
	if code != impl.OK {
		t.Fatal("Append", code)
	}
	r.disk = d
	r.records = append(r.records, record{text: text})
}

func (r *diskRun) sync(t *testing.T) {
	t.Helper()
	d, code := impl.Sync(r.disk)
	if code != impl.OK {
		t.Fatal("Sync", code)
	}
	r.disk = d
	for i := range r.records {
		r.records[i].sure = true
	}
}

func (r *diskRun) crash(t *testing.T, keep, torn int) {
	t.Helper()
	d, code := impl.CrashDisk(r.disk, keep, torn)
	if code != impl.OK {
		t.Fatal("CrashDisk", keep, torn, code)
	}
	r.disk = d
	left := len(r.records)
	for i := range r.records {
		switch {
		case r.records[i].sure:
		case keep > 0:
			keep--
			r.records[i].sure = true
		case torn > 0:
			r.records[i].sure = true
			r.records[i].torn = torn < len(sealTold(r.records[i].text))
			torn = 0
		default:
			left = min(left, i)
		}
	}
	r.records = r.records[:left]
}

// What is sure comes back, up to a line that was torn: a disk does not mend itself.
func (r *diskRun) check(t *testing.T) {
	t.Helper()
	var want []string
	for _, rec := range r.records {
		if !rec.sure || rec.torn {
			break
		}
		want = append(want, rec.text)
	}
	got, code := impl.Recover(r.disk)
	if !slices.Equal(got, want) || code != impl.OK || lines(r.disk) != len(r.records) {
		t.Fatalf("Recover of %q = %q, %d, not %q", r.disk, got, code, want)
	}
}

func TestWhatIsSureSurvives(t *testing.T) {
	tricky := trickyTexts()
	for seed := range uint32(300) {
		r := diskRun{history: history{state: seed}}
		for range 60 {
			sure := slices.Clone(r.Sure)
			switch r.draw(8) {
			case 0:
				r.sync(t)
			case 1:
				r.crash(t, r.draw(len(r.Unsure)+2), 0)
			case 2:
				if r.draw(4) == 0 {
					r.crash(t, r.draw(len(r.Unsure)+2), r.draw(40))
				}
			default:
				r.append(t, tricky[r.draw(len(tricky))])
			}
			if len(r.Sure) < len(sure) || !slices.Equal(r.Sure[:len(sure)], sure) {
				t.Fatalf("seed %d: %q were sure, %q are", seed, sure, r.Sure)
			}
			r.check(t)
		}
	}
}

// Disks of few lines, each crash of them: what is sure, a beginning of the rest, and of the next line all or nothing.
func TestEachCrashOfSmallDisks(t *testing.T) {
	texts := []string{"0:0:", "", "x", "1:50:1", "ab"}
	for all := range len(texts) + 1 {
		for sure := range all + 1 {
			for keep := range len(texts) + 2 {
				for torn := range 16 {
					var r diskRun
					for i, text := range texts[:all] {
						if i == sure {
							r.sync(t)
						}
						r.append(t, text)
					}
					if sure == all {
						r.sync(t)
					}
					r.crash(t, keep, torn)
					r.check(t)
					r.append(t, "behind")
					r.sync(t)
					r.check(t)
				}
			}
		}
	}
}

var sealedForm = regexp.MustCompile(`\A(0|[1-9][0-9]*):(0|[1-9][0-9]*):(?s:.*)\z`)

// openedAsItStands holds a line against a pattern, and its numbers against the text behind them.
func openedAsItStands(t *testing.T, line string) {
	t.Helper()
	want, code := "", impl.ErrSum
	if sealedForm.MatchString(line) {
		parts := strings.SplitN(line, ":", 3)
		size, wrongSize := strconv.Atoi(parts[0])
		sum, wrongSum := strconv.Atoi(parts[1])
		if wrongSize == nil && wrongSum == nil && size == len(parts[2]) && sum == sumTold(parts[2]) {
			want, code = parts[2], impl.OK
		}
	}
	if got, c := impl.OpenLine(line); got != want || c != code {
		t.Fatalf("OpenLine(%q) = %q, %d, not %q, %d", line, got, c, want, code)
	}
}

func TestEachShortLine(t *testing.T) {
	ask := func(line string) { openedAsItStands(t, line) }
	eachText("", "01259:-a", 6, ask)
	eachText("0:", "01:", 6, ask)
	eachText("1:", "0589:;a\x00", 5, ask)
	eachText("2:", "0269:ab", 6, ask)
	for size := range 3 {
		for sum := range 1000 {
			eachText(fmt.Sprintf("%d:%d:", size, sum), "ab\xff", 2, ask)
		}
	}
}

// One byte that is another one, is not there, or is too much; bytes that changed places.
func TestLinesThatAreNearlySealed(t *testing.T) {
	for _, text := range []string{"", "a", "ab", "0:0:", "a:b:c", "\xff\x00\xff", "\u00e4", "put key 1.0.0|a1=5", strings.Repeat("\xff", 8) + "R\x00"} {
		line := sealTold(text)
		openedAsItStands(t, line)
		for i := range len(line) + 1 {
			for b := range 256 {
				openedAsItStands(t, line[:i]+string([]byte{byte(b)})+line[i:])
			}
		}
		for i := range len(line) {
			openedAsItStands(t, line[:i]+line[i+1:])
			openedAsItStands(t, line[i:])
			for b := range 256 {
				openedAsItStands(t, line[:i]+string([]byte{byte(b)})+line[i+1:])
			}
			for k := range i {
				swapped := []byte(line)
				swapped[i], swapped[k] = swapped[k], swapped[i]
				openedAsItStands(t, string(swapped))
			}
		}
	}
}

// Of many lines each may be the one that is cut: those ahead of it come back, and no others.
func TestEachOfManyLinesIsCut(t *testing.T) {
	texts := manyTexts(impl.MaxRecords)
	for at := range texts {
		sure := manyLines(impl.MaxRecords)
		sure[at] = sure[at][:len(sure[at])-1]
		if got, code := impl.Recover(disk{Sure: sure}); !slices.Equal(got, texts[:at]) || code != impl.OK {
			t.Fatalf("Recover with line %d cut: %d lines, %d", at, len(got), code)
		}
	}
}
