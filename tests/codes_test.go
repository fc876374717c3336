package tests

import (
	"math"
	"strings"
	"testing"

	"loop.example/g00535/impl"
)

// The table of chapter 1, written out once more so that neither numbers nor words can drift.
var codeTable = []struct {
	got, number int
	word        string
}{
	{impl.OK, 0, "ok"},
	{impl.ErrBad, 1, "bad"},
	{impl.ErrLong, 2, "long"},
	{impl.ErrForm, 3, "form"},
	{impl.ErrRange, 4, "range"},
	{impl.ErrNone, 5, "none"},
	{impl.ErrMany, 6, "many"},
	{impl.ErrFull, 7, "full"},
	{impl.ErrKey, 8, "key"},
	{impl.ErrOwner, 9, "owner"},
	{impl.ErrDown, 10, "down"},
	{impl.ErrUp, 11, "up"},
	{impl.ErrFenced, 12, "fenced"},
	{impl.ErrQuorum, 13, "quorum"},
	{impl.ErrSum, 14, "sum"},
	{impl.ErrTorn, 15, "torn"},
	{impl.ErrCut, 16, "cut"},
	{impl.ErrOrder, 17, "order"},
	{impl.ErrName, 18, "name"},
	{impl.ErrClosed, 19, "closed"},
}

func TestCodesAreTheTable(t *testing.T) {
	for _, c := range codeTable {
		if c.got != c.number {
			t.Errorf("constant of %q is %d, not %d", c.word, c.got, c.number)
		}
		if w := impl.CodeWord(c.number); w != c.word {
			t.Errorf("CodeWord(%d) = %q, not %q", c.number, w, c.word)
		}
		if n := impl.CodeOf(c.word); n != c.number {
			t.Errorf("CodeOf(%q) = %d, not %d", c.word, n, c.number)
		}
	}
}

func TestOtherNumbersHaveNoWord(t *testing.T) {
	for _, n := range []int{-1, -2, -19, 20, 21, 255, 256, 1 << 32, math.MinInt, math.MaxInt} {
		if w := impl.CodeWord(n); w != "" {
			t.Errorf("CodeWord(%d) = %q", n, w)
		}
	}
}

func TestOtherTextsHaveNoCode(t *testing.T) {
	long := strings.Repeat("a", impl.MaxText+1)
	for _, w := range []string{"", " ", "OK", "Ok", "o", "okk", " ok", "ok ", "ok\x00", "\x00", "0", "-1", "ErrBad", "closed\n",
		"close", "closedd", "bad bad", "\xff", "größe", "ok" + long, long, long + long} {
		if n := impl.CodeOf(w); n != -1 {
			t.Errorf("CodeOf of %d bytes %.12q = %d", len(w), w, n)
		}
	}
}

func TestBounds(t *testing.T) {
	if impl.MaxText != 65536 || impl.MaxList != 4096 || impl.MaxName != 40 {
		t.Error(impl.MaxText, impl.MaxList, impl.MaxName)
	}
}

func TestNames(t *testing.T) {
	for _, n := range []string{"a", "z", "A", "Z", "_", "__", "_0", "a9", "aZ_09", "Zz", "k" + strings.Repeat("9", impl.MaxName-1),
		strings.Repeat("_", impl.MaxName), strings.Repeat("q", impl.MaxName-1)} {
		if !impl.NameOK(n) {
			t.Errorf("%q is a name", n)
		}
	}
	for _, n := range []string{"", "0", "9a", "-", "a-", "a b", " a", "a ", "a\n", "\x00", "a\x00", "ä", "aä", "a\xff", "a.b",
		strings.Repeat("a", impl.MaxName+1), strings.Repeat("a", impl.MaxText), strings.Repeat("a", impl.MaxText+1)} {
		if impl.NameOK(n) {
			t.Errorf("%.50q is no name", n)
		}
	}
}

// Every byte there is, ahead and behind: the edges of the letters and digits among them.
func TestNamesByteByByte(t *testing.T) {
	const letters = "abcdefghijklmnopqrstuvwxyzABCDEFGHIJKLMNOPQRSTUVWXYZ_"
	for i := range 256 {
		b := string([]byte{byte(i)})
		first := strings.Contains(letters, b)
		later := first || strings.Contains("0123456789", b)
		if impl.NameOK(b) != first {
			t.Errorf("NameOK(%q) is not %v", b, first)
		}
		for _, n := range []string{"a" + b, "a" + b + "a", "aa" + b} {
			if impl.NameOK(n) != later {
				t.Errorf("NameOK(%q) is not %v", n, later)
			}
		}
	}
}
