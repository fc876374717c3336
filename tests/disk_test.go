package tests

import (
	"fmt"
	"math"
	"slices"
	"strings"
	"testing"

	"loop.example/g00535/impl"
)

type disk = impl.Disk

// Told without the program's own calls: the sum is taken modulo 9973 at the end alone.
func sumTold(text string) int {
	all := 0
	for i, b := range []byte(text) {
		all += (i + 1) * (int(b) + 1)
	}
	return all % 9973
}

func sealTold(text string) string { return fmt.Sprintf("%d:%d:%s", len(text), sumTold(text), text) }

func sealedLines(texts ...string) []string {
	var lines []string
	for _, text := range texts {
		lines = append(lines, sealTold(text))
	}
	return lines
}

func manyTexts(n int) []string {
	var texts []string
	for i := range n {
		texts = append(texts, fmt.Sprint("line ", i))
	}
	return texts
}

func manyLines(n int) []string { return sealedLines(manyTexts(n)...) }

// Empty lists and nil are the same.
func alikeDisks(a, b disk) bool {
	return slices.Equal(a.Sure, b.Sure) && slices.Equal(a.Unsure, b.Unsure)
}

func isZeroDisk(d disk) bool { return len(d.Sure)+len(d.Unsure) == 0 }

func lines(d disk) int { return len(d.Sure) + len(d.Unsure) }

func rightDisks() []disk {
	all := []disk{
		{},
		{Sure: []string{}, Unsure: []string{}},
		{Sure: sealedLines("ab")},
		{Unsure: sealedLines("ab")},
		{Sure: sealedLines("ab", "c"), Unsure: sealedLines("", "ab", "\xff:\x00\n")},
		{Sure: sealedLines("a", "a", "a"), Unsure: sealedLines("a", "a")},
		// a disk does not ask whether its lines are sealed
		{Sure: []string{""}, Unsure: []string{"", ":", "2:296"}},
		{Sure: []string{"2:296:ab", "2:29", "1:100:c"}, Unsure: []string{"1:101:d", "none", "1:102:e"}},
		{Sure: []string{sealTold(strings.Repeat("m", impl.MaxText))}, Unsure: []string{strings.Repeat("n", 2*impl.MaxText)}},
	}
	most := manyLines(impl.MaxRecords)
	for _, sure := range []int{0, 1, 150, 299, 300} {
		all = append(all, disk{Sure: most[:sure], Unsure: most[sure:]})
	}
	for _, sure := range []int{0, 1, 150, 298, 299} {
		all = append(all, disk{Sure: most[:sure], Unsure: most[sure:299]})
	}
	return all
}

func wrongDisks() []disk {
	all := []disk{
		{Sure: make([]string, 5000)},
		{Unsure: make([]string, 5000)},
		{Sure: manyLines(300), Unsure: manyLines(300)},
	}
	tooMany := manyLines(impl.MaxRecords + 1)
	for _, sure := range []int{0, 1, 150, 300, 301} {
		all = append(all, disk{Sure: tooMany[:sure], Unsure: tooMany[sure:]})
	}
	return all
}

func TestDiskConstants(t *testing.T) {
	if impl.MaxRecords != 300 {
		t.Error("MaxRecords", impl.MaxRecords)
	}
}

func TestDiskRightAndWrong(t *testing.T) {
	for i, d := range rightDisks() {
		if !impl.DiskOK(d) {
			t.Error("DiskOK of right disk", i)
		}
	}
	for i, d := range wrongDisks() {
		if impl.DiskOK(d) {
			t.Error("DiskOK of wrong disk", i)
		}
	}
}

func TestSums(t *testing.T) {
	eight := strings.Repeat("\xff", 8) // 256 * 36 is 9216
	for _, c := range []struct {
		text string
		sum  int
	}{
		{"", 0}, {"\x00", 1}, {"\x00\x00", 3}, {"\xff", 256}, {"a", 98}, {"ab", 296}, {"ba", 295}, {":", 59}, {"\u00e4", 196 + 2*165},
		{eight, 9216}, {eight + "I\x08", 9972}, {eight + "R\x00", 0}, {eight + "\xff", 256*45 - 9973},
		{strings.Repeat("\xff", 39), 256*780 - 20*9973},
	} {
		if got := impl.SumOf(c.text); got != c.sum {
			t.Errorf("SumOf(%q) = %d, not %d", c.text, got, c.sum)
		}
	}
}

// Up to MaxText bytes each of them counts; of more the sum is 0.
func TestSumsOfLongTexts(t *testing.T) {
	for _, fill := range []string{"\x00", "a", "\xff", "any text"} {
		long := strings.Repeat(fill, 2*impl.MaxText)
		for _, size := range []int{9972, 9973, 9974, 20000, impl.MaxText - 1, impl.MaxText, impl.MaxText + 1, impl.MaxText + 2, len(long)} {
			want := sumTold(long[:size])
			if size > impl.MaxText {
				want = 0
			}
			if got := impl.SumOf(long[:size]); got != want {
				t.Errorf("SumOf %d bytes of %q = %d, not %d", size, fill, got, want)
			}
		}
	}
}

func TestSealedLines(t *testing.T) {
	for _, c := range []struct{ text, line string }{
		{"", "0:0:"},
		{"a", "1:98:a"},
		{"ab", "2:296:ab"},
		{":", "1:59::"},
		{"::", "2:177:::"},
		{"\n", "1:11:\n"},
		{"\x00", "1:1:\x00"},
		{"\xff", "1:256:\xff"},
		{"\xc3", "1:196:\xc3"},
		{"0:0:", "4:550:0:0:"},
		{"a:b:c", "5:1249:a:b:c"},
		{strings.Repeat("\xff", 8) + "R\x00", "10:0:" + strings.Repeat("\xff", 8) + "R\x00"},
		{strings.Repeat("\x00", 100), "100:5050:" + strings.Repeat("\x00", 100)},
	} {
		if got, code := impl.SealLine(c.text); got != c.line || code != impl.OK {
			t.Errorf("SealLine(%q) = %q, %d", c.text, got, code)
		}
		if got, code := impl.OpenLine(c.line); got != c.text || code != impl.OK {
			t.Errorf("OpenLine(%q) = %q, %d", c.line, got, code)
		}
	}
}

// Lines that are no sealed lines.
func noSealedLines() []string {
	none := []string{"", ":", "::", ":::", "0", "0:", "0:0", "0::", ":0:", ":0:0:", "0:0:0", "0:0::", "0:0:a", "0:1:", "1:0:", "1:1:", "0,0,", "0.0.",
		"ab", "ab:", "a:b:", "a:b:c", "2", "2:", "2:296", "2:296:", "2:296:a", "2:296:abc", "2:296:ab:", "2:296:ab\n", "2:296:ba", "2:296:Ab",
		"2:296::ab", "2::296:ab", "2::ab", ":296:ab", "::ab", "2:296ab", "2296:ab", "2;296;ab", "2:296;ab", "2;296:ab", "2:296 :ab", "2 :296:ab",
		" 2:296:ab", "\n2:296:ab", "296:2:ab", "x:296:ab", "2:x:ab", "2:296:ab2:296:ab",
		// lengths and sums that are not the text's
		"1:296:ab", "3:296:ab", "0:296:ab", "20:296:ab", "2:295:ab", "2:297:ab", "2:0:ab", "2:10269:ab", "2:29:ab", "2:2960:ab",
		// a sum that is the text's, but not modulo 9973
		"10:9973:" + strings.Repeat("\xff", 8) + "R\x00", "9:11520:" + strings.Repeat("\xff", 9)}
	for _, n := range wrongNumberTexts {
		none = append(none, n+":296:ab", "2:"+n+":ab", n+":0:", "0:"+n+":", n+":98:a", "1:"+n+":\x00", n+":"+n+":", n)
	}
	for _, n := range []string{"02", "2.", "+2", "-2", " 2", "2 ", "18446744073709551618", "36893488147419103234", "002", "0x2", "2_", "\u0662", "\uff12"} {
		none = append(none, n+":296:ab")
	}
	for _, n := range []string{"0296", "+296", "-296", "00296", " 296", "296 ", "18446744073709551912", "2_96", "0x128", "2e2"} {
		none = append(none, "2:"+n+":ab")
	}
	for _, b := range noUtf8 {
		none = append(none, b, b+":296:ab", b+"2:296:ab", "2"+b+":296:ab", "2:"+b+":ab", "2:296"+b+":ab", "2:296:"+b+"ab", "2:296:ab"+b, "2:296:a"+b,
			"2:296:"+b, b+":"+b+":"+b)
	}
	return none
}

func TestNoSealedLines(t *testing.T) {
	for _, line := range noSealedLines() {
		if got, code := impl.OpenLine(line); got != "" || code != impl.ErrSum {
			t.Errorf("OpenLine(%q) = %q, %d", line, got, code)
		}
	}
}

// ErrLong is told of the bytes of what is handed in: a line that is longer than MaxText can't be, though it is sealed.
func TestLongLines(t *testing.T) {
	for _, fill := range []string{"\x00", "a", "\xff", ":"} {
		long := strings.Repeat(fill, impl.MaxText+1)
		if got, code := impl.SealLine(long[:impl.MaxText]); got != sealTold(long[:impl.MaxText]) || code != impl.OK {
			t.Errorf("SealLine of MaxText bytes of %q: %d bytes, %d", fill, len(got), code)
		}
		if got, code := impl.SealLine(long); got != "" || code != impl.ErrLong {
			t.Errorf("SealLine of more bytes of %q: %d bytes, %d", fill, len(got), code)
		}
		for size := impl.MaxText - 20; size <= impl.MaxText; size++ {
			line, want, code := sealTold(long[:size]), long[:size], impl.OK
			if len(line) > impl.MaxText {
				want, code = "", impl.ErrLong
			}
			if got, c := impl.OpenLine(line); got != want || c != code {
				t.Errorf("OpenLine of a line of %d bytes of %q: %d bytes, %d", len(line), fill, len(got), c)
			}
		}
	}
	none := strings.Repeat("2", 2*impl.MaxText)
	for size, want := range map[int]int{impl.MaxText: impl.ErrSum, impl.MaxText + 1: impl.ErrLong, len(none): impl.ErrLong} {
		if got, code := impl.OpenLine(none[:size]); got != "" || code != want {
			t.Errorf("OpenLine of %d bytes = %q, %d", size, got, code)
		}
	}
}

func TestAppend(t *testing.T) {
	texts := []string{"", "ab", ":", "2:296:ab", "\xff\n\x00", strings.Repeat("x", impl.MaxText)}
	for i, d := range rightDisks() {
		for _, text := range texts {
			want, code := disk{Sure: d.Sure, Unsure: slices.Concat(d.Unsure, sealedLines(text))}, impl.OK
			if lines(d) == impl.MaxRecords {
				want, code = d, impl.ErrFull
			}
			if got, c := impl.Append(d, text); !alikeDisks(got, want) || c != code {
				t.Errorf("Append to disk %d of %.20q: %d, %d lines, %d", i, text, len(got.Sure), len(got.Unsure), c)
			}
		}
	}
}

// A disk takes MaxRecords lines, sure or not, and not one more.
func TestADiskFillsUp(t *testing.T) {
	for _, every := range []int{1, 7, 1000} {
		var d disk
		var code int
		for i, text := range manyTexts(impl.MaxRecords) {
			if d, code = impl.Append(d, text); code != impl.OK {
				t.Fatal("Append", i, code)
			}
			if i%every == 0 {
				d, _ = impl.Sync(d)
			}
		}
		if !slices.Equal(slices.Concat(d.Sure, d.Unsure), manyLines(impl.MaxRecords)) {
			t.Fatal("lines", d)
		}
		if got, code := impl.Append(d, "more"); code != impl.ErrFull || !alikeDisks(got, d) {
			t.Fatal("Append to a full disk", code)
		}
	}
}

func TestSync(t *testing.T) {
	for i, d := range rightDisks() {
		got, code := impl.Sync(d)
		if !alikeDisks(got, disk{Sure: slices.Concat(d.Sure, d.Unsure)}) || code != impl.OK {
			t.Errorf("Sync of disk %d: %d, %d lines, %d", i, len(got.Sure), len(got.Unsure), code)
		}
		if again, code := impl.Sync(got); !alikeDisks(again, got) || code != impl.OK {
			t.Errorf("Sync again of disk %d: %d", i, code)
		}
	}
}

func TestCrashes(t *testing.T) {
	d := disk{Sure: []string{"2:296:ab", "none"}, Unsure: []string{"1:100:c", "", "2:296:ab"}}
	for _, c := range []struct {
		keep, torn int
		survive    []string
	}{
		{0, 0, nil},
		{0, 1, []string{"1"}},
		{0, 6, []string{"1:100:"}},
		{0, 7, []string{"1:100:c"}},
		{0, 8, []string{"1:100:c"}},
		{0, impl.MaxText, []string{"1:100:c"}},
		{1, 0, []string{"1:100:c"}},
		{1, 1, []string{"1:100:c", ""}}, // the next one is there: it has no bytes
		{1, impl.MaxText, []string{"1:100:c", ""}},
		{2, 0, []string{"1:100:c", ""}},
		{2, 1, []string{"1:100:c", "", "2"}},
		{2, 7, []string{"1:100:c", "", "2:296:a"}},
		{2, 8, []string{"1:100:c", "", "2:296:ab"}},
		{3, 0, []string{"1:100:c", "", "2:296:ab"}},
		{3, 1, []string{"1:100:c", "", "2:296:ab"}},
		{4, 5, []string{"1:100:c", "", "2:296:ab"}},
		{impl.MaxRecords, 0, []string{"1:100:c", "", "2:296:ab"}},
		{impl.MaxRecords, impl.MaxText, []string{"1:100:c", "", "2:296:ab"}},
	} {
		got, code := impl.CrashDisk(d, c.keep, c.torn)
		if !alikeDisks(got, disk{Sure: slices.Concat(d.Sure, c.survive)}) || code != impl.OK {
			t.Errorf("CrashDisk(%d, %d) = %q, %d", c.keep, c.torn, got, code)
		}
	}
}

// Whatever the disk is, with keep and torn at their bounds and about the disk's own numbers.
func TestCrashesOfDisks(t *testing.T) {
	for i, d := range rightDisks() {
		for _, keep := range []int{0, 1, 2, len(d.Unsure) - 1, len(d.Unsure), len(d.Unsure) + 1, impl.MaxRecords - 1, impl.MaxRecords} {
			for _, torn := range []int{0, 1, 7, 8, 100, impl.MaxText - 1, impl.MaxText} {
				if keep < 0 || keep > impl.MaxRecords {
					continue
				}
				want := slices.Concat(d.Sure, d.Unsure[:min(keep, len(d.Unsure))])
				if torn > 0 && keep < len(d.Unsure) {
					next := d.Unsure[keep]
					want = append(want, next[:min(torn, len(next))])
				}
				if got, code := impl.CrashDisk(d, keep, torn); !alikeDisks(got, disk{Sure: want}) || code != impl.OK {
					t.Errorf("CrashDisk(disk %d, %d, %d): %d, %d lines, %d", i, keep, torn, len(got.Sure), len(got.Unsure), code)
				}
			}
		}
	}
}

func TestCrashesOutOfRange(t *testing.T) {
	wrong := func(keep, torn int) {
		for i, d := range rightDisks() {
			if got, code := impl.CrashDisk(d, keep, torn); !isZeroDisk(got) || code != impl.ErrRange {
				t.Errorf("CrashDisk(disk %d, %d, %d): %d lines, %d", i, keep, torn, lines(got), code)
			}
		}
	}
	for _, keep := range []int{math.MinInt, -1, impl.MaxRecords + 1, impl.MaxText, math.MaxInt} {
		for _, torn := range []int{math.MinInt, -1, 0, 1, impl.MaxText, impl.MaxText + 1, math.MaxInt} {
			wrong(keep, torn)
		}
	}
	for _, torn := range []int{math.MinInt, -1, impl.MaxText + 1, math.MaxInt} {
		for _, keep := range []int{0, 1, impl.MaxRecords} {
			wrong(keep, torn)
		}
	}
}

func TestRecover(t *testing.T) {
	for i, c := range []struct {
		d    disk
		want []string
	}{
		{disk{}, nil},
		{disk{Unsure: sealedLines("ab", "c")}, nil},
		{disk{Sure: sealedLines("")}, []string{""}},
		{disk{Sure: sealedLines("ab", "", ":", "ab"), Unsure: sealedLines("c")}, []string{"ab", "", ":", "ab"}},
		{disk{Sure: append(sealedLines("ab", "c"), "none")}, []string{"ab", "c"}},
		{disk{Sure: append(sealedLines("ab", "c"), "", sealTold("d"), sealTold("e"))}, []string{"ab", "c"}},
		{disk{Sure: append([]string{"2:296:a"}, sealedLines("ab", "c")...)}, nil},
		{disk{Sure: sealedLines("ab"), Unsure: []string{"none"}}, []string{"ab"}},
		{disk{Sure: manyLines(impl.MaxRecords)}, manyTexts(impl.MaxRecords)},
		{disk{Unsure: manyLines(impl.MaxRecords)}, nil},
		{disk{Sure: sealedLines(sealTold("ab"))}, sealedLines("ab")},
	} {
		if got, code := impl.Recover(c.d); !slices.Equal(got, c.want) || code != impl.OK {
			t.Errorf("Recover of disk %d = %.60q, %d", i, got, code)
		}
	}
}

// Each line that is none ends what is recovered, wherever it stands.
func TestRecoverUpToALineThatIsNone(t *testing.T) {
	for _, none := range noSealedLines() {
		for at := range 3 {
			sure := slices.Insert(sealedLines("ab", "c"), at, none)
			got, code := impl.Recover(disk{Sure: sure, Unsure: sealedLines("d")})
			if !slices.Equal(got, []string{"ab", "c"}[:at]) || code != impl.OK {
				t.Errorf("Recover with %q at %d = %q, %d", none, at, got, code)
			}
		}
	}
}

// MaxText bounds what is handed in, not the lines of a disk.
func TestLinesOfADiskAreNotBounded(t *testing.T) {
	for _, size := range []int{impl.MaxText - 12, impl.MaxText, impl.MaxText + 1, 3 * impl.MaxText} {
		text := strings.Repeat("long ", impl.MaxText)[:size]
		line := sealTold(text)
		if got, code := impl.Recover(disk{Sure: []string{line, line}}); !slices.Equal(got, []string{text, text}) || code != impl.OK {
			t.Errorf("Recover of %d bytes: %d lines, %d", size, len(got), code)
		}
		// all the sum is worked out, not 0 of more than MaxText bytes
		zero := fmt.Sprintf("%d:0:%s", size, text)
		if got, code := impl.Recover(disk{Sure: []string{zero}}); len(got) != 0 || code != impl.OK {
			t.Errorf("Recover of %d bytes with the sum 0: %d lines, %d", size, len(got), code)
		}
		got, code := impl.CrashDisk(disk{Unsure: []string{line}}, 0, impl.MaxText)
		if !alikeDisks(got, disk{Sure: []string{line[:min(impl.MaxText, len(line))]}}) || code != impl.OK {
			t.Errorf("CrashDisk of %d bytes: %d", size, code)
		}
		if got, code := impl.CrashDisk(disk{Unsure: []string{line}}, 1, 0); !alikeDisks(got, disk{Sure: []string{line}}) || code != impl.OK {
			t.Errorf("CrashDisk of %d bytes, kept: %d", size, code)
		}
	}
}

// Beside ErrBad and ErrLong all is zero; ErrLong comes ahead of ErrBad and ErrFull, ErrBad ahead of ErrRange.
func TestWrongDisksAreBad(t *testing.T) {
	long := strings.Repeat("x", impl.MaxText+1)
	for i, d := range wrongDisks() {
		if got, code := impl.Append(d, "ab"); !isZeroDisk(got) || code != impl.ErrBad {
			t.Errorf("Append to wrong disk %d: %d lines, %d", i, lines(got), code)
		}
		if got, code := impl.Append(d, long); !isZeroDisk(got) || code != impl.ErrLong {
			t.Errorf("Append of a long text to wrong disk %d: %d lines, %d", i, lines(got), code)
		}
		if got, code := impl.Sync(d); !isZeroDisk(got) || code != impl.ErrBad {
			t.Errorf("Sync of wrong disk %d: %d lines, %d", i, lines(got), code)
		}
		for _, n := range []int{math.MinInt, -1, 0, 1, impl.MaxText + 1, math.MaxInt} {
			if got, code := impl.CrashDisk(d, n, n); !isZeroDisk(got) || code != impl.ErrBad {
				t.Errorf("CrashDisk(wrong disk %d, %d, %d): %d lines, %d", i, n, n, lines(got), code)
			}
		}
		if got, code := impl.Recover(d); len(got) != 0 || code != impl.ErrBad {
			t.Errorf("Recover of wrong disk %d: %d lines, %d", i, len(got), code)
		}
	}
	for i, d := range rightDisks() {
		if got, code := impl.Append(d, long); !isZeroDisk(got) || code != impl.ErrLong {
			t.Errorf("Append of a long text to disk %d: %d lines, %d", i, lines(got), code)
		}
	}
}
