package tests

import (
	"math"
	"slices"
	"testing"

	"loop.example/g00535/impl"
)

func placeTold(key string) int { return sumTold(key) * 37 % 360 }

// The document's places, written out: whoever stands at a place or first behind it is the first one.
func preferenceTold(place int) [3]int {
	switch {
	case place <= 40:
		return [3]int{0, 1, 2}
	case place <= 170:
		return [3]int{1, 2, 0}
	case place <= 300:
		return [3]int{2, 0, 1}
	}
	return [3]int{0, 1, 2}
}

// nthKey is the n-th of the keys of so many letters, from 0 on.
func nthKey(size, n int) string {
	key := make([]byte, size)
	for i := range key {
		key[size-1-i] = byte('a' + n%26)
		n /= 26
	}
	return string(key)
}

// keyAbove is a key of so many letters whose sum is so much above that of letters a alone.
func keyAbove(size, more int) string {
	key := make([]byte, size)
	for place := size; place > 0; place-- {
		letter := min(25, more/place)
		more -= letter * place
		key[place-1] = byte('a' + letter)
	}
	return string(key)
}

// ringKeys are all keys of up to three letters, and of more letters some that stand apart by a step, and one of each sum.
func ringKeys() []string {
	var keys []string
	all := 1
	for size, step := range []int{1: 1, 2: 1, 3: 1, 4: 97, 5: 4999, 6: 99991} {
		if size == 0 {
			continue
		}
		all *= 26
		for n := 0; n < all; n += step {
			keys = append(keys, nthKey(size, n))
		}
		for more := range 25*size*(size+1)/2 + 1 {
			keys = append(keys, keyAbove(size, more))
		}
	}
	return keys
}

// ringAsTold holds all that is told of a key against what the test works out by itself.
func ringAsTold(t *testing.T, key string, place int) {
	t.Helper()
	want := preferenceTold(place)
	if got, code := impl.KeyPlace(key); got != place || code != impl.OK {
		t.Fatal("KeyPlace", key, got, code, "not", place)
	}
	if got, code := impl.Preference(key); !slices.Equal(got, want[:]) || code != impl.OK {
		t.Fatal("Preference", key, place, got, code, "not", want)
	}
	if got, code := impl.Owners(key); !slices.Equal(got, want[:2]) || code != impl.OK {
		t.Fatal("Owners", key, place, got, code, "not", want[:2])
	}
	if got, code := impl.Fallback(key); got != want[2] || code != impl.OK {
		t.Fatal("Fallback", key, place, got, code, "not", want[2])
	}
	for node := range 3 {
		if got, code := impl.OwnsKey(node, key); got != (node != want[2]) || code != impl.OK {
			t.Fatal("OwnsKey", node, key, place, got, code)
		}
	}
}

// Told in numbers: of "a" the sum is 98, and 98 times 37 is 26 behind ten rounds.
func TestRingOfSomeKeys(t *testing.T) {
	for key, place := range map[string]int{"a": 26, "b": 63, "c": 100, "dd": 51, "key": 246, "z": 231, "i": 322, "put": 700 * 37 % 360,
		"zzzzzz": 123 * 21 * 37 % 360} {
		ringAsTold(t, key, place)
	}
	for _, key := range rightKeys {
		ringAsTold(t, key, placeTold(key))
	}
}

// Keys that stand just at a node, one ahead of it and one behind it, and at both ends of the ring.
func TestRingAtItsNodes(t *testing.T) {
	for _, c := range []struct {
		place, first int
		keys         []string
	}{
		{0, 0, []string{"qz", "hzz", "aaaz", "zlyyx", "lpbdib"}},
		{1, 0, []string{"ach", "mdywj", "piywwj"}},
		{39, 0, []string{"wzzz", "zuceg", "zkudmm"}},
		{40, 0, []string{"aaqx", "dbaab", "pjgcbn"}},
		{41, 1, []string{"abv", "aadg", "anyzn", "dsxyzl"}},
		{169, 1, []string{"acp", "aadc", "rwjvp", "qrwfvx"}},
		{170, 1, []string{"clmpe", "zrnmav"}},
		{171, 2, []string{"aavz", "adjaa", "lmsaob"}},
		{299, 2, []string{"aary", "teanck"}},
		{300, 2, []string{"ad", "aay", "aaak", "qwthz", "gsxqtw"}},
		{301, 0, []string{"qfglp", "gexseu"}},
		{358, 0, []string{"taorl", "ekkvun"}},
		{359, 0, []string{"j", "aqzz", "ldcgg", "inakjp"}},
	} {
		for _, key := range c.keys {
			ringAsTold(t, key, c.place)
			if got, code := impl.Preference(key); code != impl.OK || got[0] != c.first {
				t.Error("Preference", key, c.place, got, code, "not from", c.first)
			}
		}
	}
}

func TestRingOfManyKeys(t *testing.T) {
	met := map[[2]int]int{}
	for _, key := range ringKeys() {
		ringAsTold(t, key, placeTold(key))
		met[[2]int{len(key), placeTold(key)}]++
	}
	// Keys of five letters and of six stand at each of the places.
	for place := range 360 {
		if met[[2]int{5, place}] == 0 || met[[2]int{6, place}] == 0 {
			t.Error("no key at place", place)
		}
	}
}

// wrongOnRing asks that all calls with a key refuse it, whatever the node.
func wrongOnRing(t *testing.T, key string, want int) {
	t.Helper()
	if got, code := impl.KeyPlace(key); got != 0 || code != want {
		t.Error("KeyPlace", short(key), got, code, "not", want)
	}
	if got, code := impl.Preference(key); len(got) != 0 || code != want {
		t.Error("Preference", short(key), got, code, "not", want)
	}
	if got, code := impl.Owners(key); len(got) != 0 || code != want {
		t.Error("Owners", short(key), got, code, "not", want)
	}
	if got, code := impl.Fallback(key); got != 0 || code != want {
		t.Error("Fallback", short(key), got, code, "not", want)
	}
	for _, node := range slices.Concat([]int{0, 1, 2}, noNodes) {
		if got, code := impl.OwnsKey(node, key); got || code != want {
			t.Error("OwnsKey", node, short(key), got, code, "not", want)
		}
	}
}

var noNodes = []int{math.MinInt, math.MinInt + 1, -1 << 32, -3, -2, -1, impl.Nodes, impl.Nodes + 1, 40, 1 << 32, 1<<32 + 1, math.MaxInt - 1, math.MaxInt}

func TestRingOfWrongKeys(t *testing.T) {
	for _, key := range wrongKeys {
		wrongOnRing(t, key, impl.ErrKey)
	}
	for _, key := range longKeys {
		wrongOnRing(t, key, impl.ErrLong)
	}
	for b := range 256 {
		if 'a' <= b && b <= 'z' {
			continue
		}
		sign := string([]byte{byte(b)})
		for _, key := range []string{sign, "a" + sign, sign + "a", "abcde" + sign, sign + "bcdef", "abc" + sign + "ef"} {
			wrongOnRing(t, key, impl.ErrKey)
		}
	}
	for size := range 6 {
		ringAsTold(t, "zzzzzz"[size:], placeTold("zzzzzz"[size:]))
	}
	for size := 7; size <= 13; size++ {
		wrongOnRing(t, "zzzzzzzzzzzzz"[:size], impl.ErrKey)
	}
}

func TestOwnsKeyOfNoNode(t *testing.T) {
	for _, node := range noNodes {
		for _, key := range slices.Concat(rightKeys, []string{"qz", "aaqx", "abv", "clmpe", "aavz", "ad", "qfglp", "j"}) {
			if got, code := impl.OwnsKey(node, key); got || code != impl.ErrRange {
				t.Error("OwnsKey", node, key, got, code)
			}
		}
	}
	for node := range impl.Nodes {
		if _, code := impl.OwnsKey(node, "a"); code != impl.OK {
			t.Error("OwnsKey", node, code)
		}
	}
}
