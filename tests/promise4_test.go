package tests

import (
	"fmt"
	"regexp"
	"slices"
	"strconv"
	"strings"
	"testing"

	"loop.example/g00535/impl"
)

// Promise 4: dots, what is known, and objects are read back from their texts. And no other text is read: so the texts
// are asked for both ways.

// Told without the program's own calls, and of what is wrong, too.
func dotTold(d dot) string {
	letter := "?"
	if -1 <= d.Node && d.Node <= impl.Nodes {
		letter = string(rune('a' + d.Node))
	}
	return letter + strconv.Itoa(d.N)
}

func vvTold(v vv) string { return fmt.Sprintf("%d.%d.%d", v[0], v[1], v[2]) }

func objTold(o obj) string {
	var text strings.Builder
	text.WriteString(vvTold(o.Seen))
	for _, s := range o.Sibs {
		switch {
		case !s.Dead:
			fmt.Fprintf(&text, "|%s=%d", dotTold(s.Dot), s.Value)
		case s.Value == 0:
			fmt.Fprintf(&text, "|%s!", dotTold(s.Dot))
		default:
			fmt.Fprintf(&text, "|%s!%d", dotTold(s.Dot), s.Value)
		}
	}
	return text.String()
}

func dotComesBack(t *testing.T, d dot) {
	t.Helper()
	text, code := impl.DotText(d)
	if text != dotTold(d) || code != impl.OK {
		t.Fatal("DotText", d, text, code)
	}
	if back, code := impl.ReadDot(text); back != d || code != impl.OK {
		t.Fatal("ReadDot", text, back, code)
	}
}

func vvComesBack(t *testing.T, v vv) {
	t.Helper()
	text, code := impl.VvText(v)
	if text != vvTold(v) || code != impl.OK {
		t.Fatal("VvText", v, text, code)
	}
	if back, code := impl.ReadVv(text); back != v || code != impl.OK {
		t.Fatal("ReadVv", text, back, code)
	}
}

func objComesBack(t *testing.T, o obj) {
	t.Helper()
	text, code := impl.ObjText(o)
	if text != objTold(o) || code != impl.OK {
		t.Fatal("ObjText", o, text, code)
	}
	if back, code := impl.ReadObj(text); !alike(back, o) || code != impl.OK {
		t.Fatal("ReadObj", text, back, code)
	}
}

func TestEachDotIsReadBack(t *testing.T) {
	for node := range impl.Nodes {
		for n := 1; n <= impl.MaxDot; n++ {
			dotComesBack(t, dot{Node: node, N: n})
		}
	}
}

func TestWhatIsKnownIsReadBack(t *testing.T) {
	for _, v := range rightVvs() {
		vvComesBack(t, v)
	}
	for node := range impl.Nodes {
		for n := range impl.MaxDot + 1 {
			v := vv{5, 0, impl.MaxDot}
			v[node] = n
			vvComesBack(t, v)
		}
	}
}

func TestObjectsAreReadBack(t *testing.T) {
	for _, o := range append(rightObjs(), smallReplicas(vv{2, 2, 2})...) {
		objComesBack(t, o)
	}
	for _, d := range rightDots() {
		for value := range impl.MaxValue + 1 {
			seen, _ := impl.VvAdd(vv{}, d)
			objComesBack(t, object(seen, live(d.Node, d.N, value)))
		}
		for _, v := range rightVvs() {
			seen, _ := impl.VvAdd(v, d)
			objComesBack(t, object(seen, tomb(d.Node, d.N)))
		}
	}
}

func TestObjectsOfHistoriesAreReadBack(t *testing.T) {
	for seed := range uint32(100) {
		h := history{state: seed}
		for range 60 {
			h.write(t, h.draw(impl.Nodes))
		}
		for _, o := range h.replicas {
			objComesBack(t, o)
		}
	}
}

const (
	dotPattern     = `[abc][1-9][0-9]{0,3}`
	knownPattern   = `(?:0|[1-9][0-9]{0,3})`
	vvPattern      = knownPattern + `\.` + knownPattern + `\.` + knownPattern
	siblingPattern = `\|` + dotPattern + `(?:!|=(?:0|[1-9][0-9]{0,2}))`
)

var (
	dotForm = regexp.MustCompile(`\A` + dotPattern + `\z`)
	vvForm  = regexp.MustCompile(`\A` + vvPattern + `\z`)
	objForm = regexp.MustCompile(`\A` + vvPattern + `(?:` + siblingPattern + `)*\z`)
)

// These tell what stands in a text that has the form already.
func dotIn(text string) dot {
	n, _ := strconv.Atoi(text[1:])
	return dot{Node: int(text[0] - 'a'), N: n}
}

func vvIn(text string) vv {
	var v vv
	for i, part := range strings.Split(text, ".") {
		v[i], _ = strconv.Atoi(part)
	}
	return v
}

func objIn(text string) obj {
	parts := strings.Split(text, "|")
	o := object(vvIn(parts[0]))
	for _, part := range parts[1:] {
		if d, dead := strings.CutSuffix(part, "!"); dead {
			o.Sibs = append(o.Sibs, sibling{Dot: dotIn(d), Dead: true})
			continue
		}
		d, value, _ := strings.Cut(part, "=")
		n, _ := strconv.Atoi(value)
		o.Sibs = append(o.Sibs, sibling{Dot: dotIn(d), Value: n})
	}
	return o
}

// readAsItStands asks all three readers for a text; it may be right for none of them.
func readAsItStands(t *testing.T, text string) {
	t.Helper()
	if dotForm.MatchString(text) {
		if got, code := impl.ReadDot(text); got != dotIn(text) || code != impl.OK {
			t.Fatalf("ReadDot(%q) = %v, %d", text, got, code)
		}
	} else {
		wrongDotText(t, text, impl.ErrForm)
	}
	if vvForm.MatchString(text) {
		if got, code := impl.ReadVv(text); got != vvIn(text) || code != impl.OK {
			t.Fatalf("ReadVv(%q) = %v, %d", text, got, code)
		}
	} else {
		wrongVvText(t, text, impl.ErrForm)
	}
	if objForm.MatchString(text) && impl.ObjOK(objIn(text)) {
		if got, code := impl.ReadObj(text); !alike(got, objIn(text)) || code != impl.OK {
			t.Fatalf("ReadObj(%q) = %v, %d", text, got, code)
		}
	} else {
		wrongObjText(t, text, impl.ErrForm)
	}
}

// Each text of at most most signs behind a beginning.
func eachText(begin, signs string, most int, ask func(text string)) {
	ask(begin)
	if most == 0 {
		return
	}
	for i := range len(signs) {
		eachText(begin+signs[i:i+1], signs, most-1, ask)
	}
}

func TestEachShortText(t *testing.T) {
	ask := func(text string) { readAsItStands(t, text) }
	eachText("", "019abcd.|=!- ", 4, ask)
	eachText("", "019.", 7, ask)
	eachText("b", "0189", 6, ask)
	eachText("9.12.9", "019abd.|=!", 4, ask)
	eachText("9.12.9|b", "019a|=!", 5, ask)
	eachText("9.12.9|b2=5|", "01bc|=!", 5, ask)
	eachText("9.12.9|b2=", "0179|!", 5, ask)
}

// Right texts with each byte left out, doubled, put in and put in another one's place: each byte there is, at the
// beginning and at the end, too.
func TestTextsThatAreNearlyRight(t *testing.T) {
	for _, text := range []string{"a1", "b70", "c9999", "0.0.0", "3.0.7", "10.9999.100", "1.0.0|a1=0", "2.3.1|a2=8|c1!",
		"9.9.12|a2!|a7=999|b1=10|b9!|c12=100"} {
		readAsItStands(t, text)
		for at := range len(text) + 1 {
			for b := range 256 {
				one := string([]byte{byte(b)})
				readAsItStands(t, text[:at]+one+text[at:])
				if at < len(text) {
					readAsItStands(t, text[:at]+one+text[at+1:])
				}
			}
			readAsItStands(t, text[:at])
			readAsItStands(t, text[at:])
			for end := at; end <= len(text); end++ {
				readAsItStands(t, text[:at]+text[end:])
				readAsItStands(t, text[:end]+text[at:])
			}
		}
	}
}

// What is read is a text's only reading: told once more it is the text.
func TestWhatIsReadIsToldAlike(t *testing.T) {
	texts := []string{"a1", "b70", "c9999", "0.0.0", "9999.9999.9999", "3.0.7", "1.0.0|a1=0", "2.3.1|a2=8|c1!"}
	for _, o := range rightObjs() {
		texts = append(texts, objTold(o))
	}
	read := 0
	for _, text := range texts {
		if d, code := impl.ReadDot(text); code == impl.OK {
			again, code := impl.DotText(d)
			read += toldAgain(t, text, again, code)
		}
		if v, code := impl.ReadVv(text); code == impl.OK {
			again, code := impl.VvText(v)
			read += toldAgain(t, text, again, code)
		}
		if o, code := impl.ReadObj(text); code == impl.OK {
			again, code := impl.ObjText(o)
			read += toldAgain(t, text, again, code)
		}
	}
	if read < len(texts) {
		t.Error("of", len(texts), "texts", read, "were read")
	}
}

func toldAgain(t *testing.T, text, again string, code int) int {
	t.Helper()
	if again != text || code != impl.OK {
		t.Errorf("%q comes back as %q, %d", text, again, code)
	}
	return 1
}

// Objects that are unlike have unlike texts.
func TestTextsTellObjectsApart(t *testing.T) {
	seen := map[string]obj{}
	for _, o := range slices.Concat(rightObjs(), smallReplicas(vv{3, 2, 1})) {
		text, code := impl.ObjText(o)
		if other, ok := seen[text]; code != impl.OK || ok && !alike(other, o) {
			t.Fatal("ObjText", text, code, o, other)
		}
		seen[text] = o
	}
}
