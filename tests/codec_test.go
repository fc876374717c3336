package tests

import (
	"strings"
	"testing"

	"loop.example/g00535/impl"
)

func TestDotTexts(t *testing.T) {
	for _, c := range []struct {
		d    dot
		text string
	}{
		{dot{Node: 0, N: 1}, "a1"},
		{dot{Node: 1, N: 1}, "b1"},
		{dot{Node: 2, N: 1}, "c1"},
		{dot{Node: 0, N: impl.MaxDot}, "a9999"},
		{dot{Node: 1, N: impl.MaxDot}, "b9999"},
		{dot{Node: 2, N: impl.MaxDot}, "c9999"},
		{dot{Node: 1, N: 7}, "b7"},
		{dot{Node: 0, N: 10}, "a10"},
		{dot{Node: 2, N: 1001}, "c1001"},
	} {
		if got, code := impl.DotText(c.d); got != c.text || code != impl.OK {
			t.Errorf("DotText(%v) = %q, %d", c.d, got, code)
		}
		if got, code := impl.ReadDot(c.text); got != c.d || code != impl.OK {
			t.Errorf("ReadDot(%q) = %v, %d", c.text, got, code)
		}
	}
}

func TestVvTexts(t *testing.T) {
	for _, c := range []struct {
		v    vv
		text string
	}{
		{vv{}, "0.0.0"},
		{vv{3, 0, 7}, "3.0.7"},
		{vv{impl.MaxDot, impl.MaxDot, impl.MaxDot}, "9999.9999.9999"},
		{vv{impl.MaxDot, 0, 0}, "9999.0.0"},
		{vv{0, impl.MaxDot, 0}, "0.9999.0"},
		{vv{0, 0, impl.MaxDot}, "0.0.9999"},
		{vv{10, 100, 1000}, "10.100.1000"},
	} {
		if got, code := impl.VvText(c.v); got != c.text || code != impl.OK {
			t.Errorf("VvText(%v) = %q, %d", c.v, got, code)
		}
		if got, code := impl.ReadVv(c.text); got != c.v || code != impl.OK {
			t.Errorf("ReadVv(%q) = %v, %d", c.text, got, code)
		}
	}
}

func TestObjTexts(t *testing.T) {
	full := object(vv{0, 0, impl.MaxSibs})
	fullText := "0.0.100"
	for i := range impl.MaxSibs {
		full.Sibs = append(full.Sibs, live(2, i+1, 0))
		fullText += "|" + dotTold(dot{Node: 2, N: i + 1}) + "=0"
	}
	for _, c := range []struct {
		o    obj
		text string
	}{
		{obj{}, "0.0.0"},
		{object(vv{3, 0, 7}), "3.0.7"},
		{object(vv{impl.MaxDot, impl.MaxDot, impl.MaxDot}), "9999.9999.9999"},
		{object(vv{1}, live(0, 1, 0)), "1.0.0|a1=0"},
		{object(vv{0, 1}, live(1, 1, impl.MaxValue)), "0.1.0|b1=999"},
		{object(vv{0, 0, 1}, tomb(2, 1)), "0.0.1|c1!"},
		{object(vv{2, 3, 1}, live(0, 2, 8), tomb(2, 1)), "2.3.1|a2=8|c1!"},
		{object(vv{9, 9, 9}, tomb(0, 1), live(0, 9, 10), tomb(1, 9), live(2, 8, 100)), "9.9.9|a1!|a9=10|b9!|c8=100"},
		{object(vv{impl.MaxDot, 0, impl.MaxDot}, live(0, impl.MaxDot, 0), tomb(2, impl.MaxDot)), "9999.0.9999|a9999=0|c9999!"},
		{full, fullText},
	} {
		if got, code := impl.ObjText(c.o); got != c.text || code != impl.OK {
			t.Errorf("ObjText(%v) = %q, %d", c.o, got, code)
		}
		if got, code := impl.ReadObj(c.text); !alike(got, c.o) || code != impl.OK {
			t.Errorf("ReadObj(%q) = %v, %d", c.text, got, code)
		}
	}
}

// Beside ErrBad the text is empty.
func TestWhatIsWrongHasNoText(t *testing.T) {
	for _, d := range wrongDots {
		if got, code := impl.DotText(d); got != "" || code != impl.ErrBad {
			t.Errorf("DotText(%v) = %q, %d", d, got, code)
		}
	}
	for _, v := range wrongVvs() {
		if got, code := impl.VvText(v); got != "" || code != impl.ErrBad {
			t.Errorf("VvText(%v) = %q, %d", v, got, code)
		}
	}
	for i, o := range wrongObjs() {
		if got, code := impl.ObjText(o); got != "" || code != impl.ErrBad {
			t.Errorf("ObjText of wrong object %d = %q, %d", i, got, code)
		}
	}
}

// Numbers that are none, whatever their bound is: noughts ahead, signs, other ways to write them, too great for 64 bits.
var wrongNumberTexts = []string{"", "00", "01", "07", "007", "-1", "-0", "+1", "--1", "1-", " 1", "1 ", "1 2", "1_0", "0x1", "1e1",
	"1.", ".1", "x", "1x", "x1", "\x00", "1\x00", "1\n", "\t1", "\u00b2", "\u0663", "\uff11", "10000", "65537", "100000",
	"999999999999999999", "9223372036854775807", "9223372036854775808", "18446744073709551615", "18446744073709551616",
	"18446744073709551617", "36893488147419103233", "340282366920938463463374607431768211457", "00000000000000000001",
	strings.Repeat("9", 400), strings.Repeat("0", 400), "1" + strings.Repeat("0", 400)}

// Bytes that are no UTF-8, and the sign that a range over a string tells in their place.
var noUtf8 = []string{"\xff", "\x80", "\xc3", "\xe2\x82", "\xed\xa0\x80", "\xc0\xb1", "\xef\xbf\xbd", "\xf8\x88\x80\x80\x80"}

func TestWrongDotTexts(t *testing.T) {
	texts := []string{"", "a", "b", "c", "a0", "b0", "c0", "7", "0", "d1", "A1", "B7", "C9", "`1", "_1", "z1", "aa1", "ab1", "a1b", "a1b1",
		"a1.", "a1=1", "a1!", "|a1", "a 1", "a.1", "1a", "a1 b1", "\u00e11", "\u04301"}
	for _, n := range wrongNumberTexts {
		texts = append(texts, "a"+n, "b"+n, "c"+n)
	}
	for _, b := range noUtf8 {
		texts = append(texts, b, b+"a1", "a"+b+"1", "a1"+b, "a"+b, b+"1")
	}
	for _, text := range texts {
		wrongDotText(t, text, impl.ErrForm)
	}
}

func TestWrongVvTexts(t *testing.T) {
	texts := []string{"", ".", "..", "...", "3", "3.0", "3.0.", ".3.0", "3.0.7.", ".3.0.7", "3.0.7.1", "3.0.7.0", "3..7", "3...7", "3.0..7",
		"3,0,7", "3 0 7", "3.0.7|", "3.0.7|a1=5", "a3.0.7", "a.b.c", "3 .0.7", "3.0.7\n", "3.0 .7"}
	for _, n := range wrongNumberTexts {
		texts = append(texts, n+".2.3", "1."+n+".3", "1.2."+n)
	}
	for _, b := range noUtf8 {
		texts = append(texts, b, b+"1.2.3", "1"+b+".2.3", "1."+b+".3", "1.2"+b+"3", "1.2.3"+b)
	}
	for _, text := range texts {
		wrongVvText(t, text, impl.ErrForm)
	}
}

func TestWrongObjTexts(t *testing.T) {
	texts := []string{"", "|", "||", "a1=5", "|a1=5", "9.9.9|", "9.9.9||", "|9.9.9", "9.9.9||a1=5", "9.9.9|a1=5|", "9.9.9|a1=5||b1=5",
		"9.9|a1=5", "9.9.9.9|a1=5", "9.9.|a1=5", "9.9.9a1=5", "9.9.9 a1=5", "9.9.9|a1=5|9.9.9", "9.9.9|9.9.9",
		// neither '=' nor '!', both of them, signs behind
		"9.9.9|a1", "9.9.9|a1|b1=5", "9.9.9|a15", "9.9.9|a1:5", "9.9.9|a1=", "9.9.9|a1=|b1=5", "9.9.9|a1!=5", "9.9.9|a1=5!", "9.9.9|a1=!",
		"9.9.9|a1!!", "9.9.9|a1!5", "9.9.9|a1!0", "9.9.9|a1==5", "9.9.9|a1=5=6", "9.9.9|a1=5.", "9.9.9|a1=5.0", "9.9.9|a1! ", "9.9.9|a1=5a",
		"9.9.9|=5", "9.9.9|!", "9.9.9|a=5", "9.9.9|a!", "9.9.9|1=5", "9.9.9|a0=5", "9.9.9|a0!", "9.9.9|a01=5", "9.9.9|a01!", "9.9.9|d1=5",
		"9.9.9|A1=5", "9.9.9|a1=1000", "9.9.9|a1=9999", "9.9.9|a1=-1", "9.9.9|a10000=5", "9999.0.0|a10000=5", "9999.0.0|a10000!"}
	for _, n := range wrongNumberTexts {
		texts = append(texts, "9.9."+n+"|a1=5", "9.9.9|a"+n+"=5", "9.9.9|a"+n+"!", "9.9.9|a1="+n, "9.9.9|a1="+n+"|b1=5")
	}
	for _, b := range noUtf8 {
		texts = append(texts, b, b+"9.9.9|a1=5", "9.9.9"+b+"|a1=5", "9.9.9|"+b+"a1=5", "9.9.9|a1"+b+"=5", "9.9.9|a1="+b, "9.9.9|a1=5"+b,
			"9.9.9|a1!"+b)
	}
	for _, text := range texts {
		wrongObjText(t, text, impl.ErrForm)
	}
}

// Texts whose signs are all in their places, of objects that are not right.
func TestTextsOfObjectsThatAreNotRight(t *testing.T) {
	texts := []string{"0.0.0|a1=5", "0.9.9|a1=5", "9.0.9|b1!", "9.9.0|c1=5", "2.3.1|a3=8", "2.3.1|c1!|a2=8", "2.3.1|a2=8|a2=8",
		"2.3.1|a2=8|a2!", "2.3.1|a2=8|a1=8", "2.3.1|b1=1|a1=1|c1=1", "9998.0.0|a9999=1",
		"9.9.9" + strings.Repeat("|a1!", (impl.MaxText-5)/4), "9.9.9" + strings.Repeat("|a1=0", (impl.MaxText-5)/5)}
	for _, o := range wrongObjs() {
		texts = append(texts, objTold(o))
	}
	for _, text := range texts {
		wrongObjText(t, text, impl.ErrForm)
	}
}

// ErrLong is told of a text's bytes alone, ahead of all else, and not of a text that is just long enough.
func TestLongTexts(t *testing.T) {
	for _, c := range []struct{ begin, fill string }{
		{"a", "1"}, {"a1", "0"}, {"a", "0"}, {"1.2.", "3"}, {"1.2.3", "."}, {"1.2.3|a1=5", " "}, {"1.2.3|a1=", "0"}, {"1.2.3", "|a1!"}, {"", "\xff"},
		{"", "\x00"}, {"", "ä"}, {"a1", "\n"},
	} {
		long := c.begin + strings.Repeat(c.fill, impl.MaxText/len(c.fill)+1)
		for _, size := range []int{impl.MaxText - 1, impl.MaxText, impl.MaxText + 1, len(long)} {
			if size > len(long) {
				continue
			}
			want := impl.ErrForm
			if size > impl.MaxText {
				want = impl.ErrLong
			}
			wrongDotText(t, long[:size], want)
			wrongVvText(t, long[:size], want)
			wrongObjText(t, long[:size], want)
		}
	}
	huge := strings.Repeat("a1", 10*impl.MaxText)
	wrongDotText(t, huge, impl.ErrLong)
	wrongVvText(t, huge, impl.ErrLong)
	wrongObjText(t, huge, impl.ErrLong)
}

// The longest text that an object has is far below MaxText.
func TestLongestObjText(t *testing.T) {
	o := object(vv{impl.MaxDot, impl.MaxDot, impl.MaxDot}, run(0, impl.MaxDot-impl.MaxSibs+1, impl.MaxDot)...)
	for i := range o.Sibs {
		o.Sibs[i].Value = impl.MaxValue
	}
	text, code := impl.ObjText(o)
	if len(text) != len("9999.9999.9999")+impl.MaxSibs*len("|a9999=999") || code != impl.OK {
		t.Error("ObjText", len(text), code)
	}
	if got, code := impl.ReadObj(text); !alike(got, o) || code != impl.OK {
		t.Error("ReadObj", got, code)
	}
}

// Beside a code all else is zero.
func wrongDotText(t *testing.T, text string, want int) {
	t.Helper()
	if got, code := impl.ReadDot(text); got != (dot{}) || code != want {
		t.Errorf("ReadDot of %d bytes %.60q = %v, %d, not %d", len(text), text, got, code, want)
	}
}

func wrongVvText(t *testing.T, text string, want int) {
	t.Helper()
	if got, code := impl.ReadVv(text); got != (vv{}) || code != want {
		t.Errorf("ReadVv of %d bytes %.60q = %v, %d, not %d", len(text), text, got, code, want)
	}
}

func wrongObjText(t *testing.T, text string, want int) {
	t.Helper()
	if got, code := impl.ReadObj(text); !isZero(got) || code != want {
		t.Errorf("ReadObj of %d bytes %.60q = %v, %d, not %d", len(text), text, got, code, want)
	}
}
