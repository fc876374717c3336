package tests

import (
	"fmt"
	"math"
	"slices"
	"strings"
	"testing"

	"loop.example/g00535/impl"
)

func bucketTold(key string) int { return sumTold(key) % impl.Buckets }

// What each bucket of a node says, built from its keys and objects alone.
func textsTold(x node) [impl.Buckets]string {
	var texts [impl.Buckets]string
	for _, key := range slices.Sorted(slices.Values(keysTold(x))) {
		texts[bucketTold(key)] += key + " " + objTold(objOf(x, key)) + "\n"
	}
	return texts
}

func keysTold(x node) []string {
	var keys []string
	for _, c := range x.Cells {
		keys = append(keys, c.Key)
	}
	return keys
}

func objOf(x node, key string) obj {
	i := slices.IndexFunc(x.Cells, func(c cell) bool { return c.Key == key })
	return x.Cells[i].Obj
}

// bucketKeys are so many keys of one bucket, rising, of two letters and more.
func bucketKeys(bucket, many int) []string {
	var keys []string
	for a := 'a'; a <= 'z'; a++ {
		for b := 'a'; b <= 'z'; b++ {
			if key := string([]rune{a, b}); bucketTold(key) == bucket && len(keys) < many {
				keys = append(keys, key)
			}
		}
	}
	return keys
}

// bucketsAsTold holds all that is told of a node's buckets against what the test builds by itself.
func bucketsAsTold(t *testing.T, x node) {
	t.Helper()
	texts := textsTold(x)
	sums, code := impl.Digest(x)
	if code != impl.OK || len(sums) != impl.Buckets {
		t.Fatal("Digest", short(x), sums, code)
	}
	for bucket, text := range texts {
		if sums[bucket] != sumTold(text) {
			t.Fatal("Digest", short(x), sums, "not", sumTold(text), "of", bucket)
		}
		var want []string
		for _, key := range slices.Sorted(slices.Values(keysTold(x))) {
			if bucketTold(key) == bucket {
				want = append(want, key)
			}
		}
		if got, code := impl.KeysIn(x, bucket); !slices.Equal(got, want) || code != impl.OK {
			t.Fatal("KeysIn", short(x), bucket, got, code, "not", want)
		}
	}
}

// unlikeAsTold holds the unlike buckets of two nodes, asked both ways round, against their texts.
func unlikeAsTold(t *testing.T, a, b node) []int {
	t.Helper()
	var want []int
	others := textsTold(b)
	for bucket, text := range textsTold(a) {
		if text != others[bucket] {
			want = append(want, bucket)
		}
	}
	if got, code := impl.DiffBuckets(a, b); !slices.Equal(got, want) || code != impl.OK {
		t.Fatal("DiffBuckets", short(a), short(b), got, code, "not", want)
	}
	if got, code := impl.DiffBuckets(b, a); !slices.Equal(got, want) || code != impl.OK {
		t.Fatal("DiffBuckets the other way round", short(b), short(a), got, code, "not", want)
	}
	return want
}

func TestBucketConstants(t *testing.T) {
	if impl.Buckets != 4 {
		t.Error("Buckets", impl.Buckets)
	}
}

func TestBucketOf(t *testing.T) {
	for key, want := range map[string]int{"a": 2, "b": 3, "c": 0, "d": 1, "z": 3, "dd": 3, "key": 2, "zz": 1, "abcdef": bucketTold("abcdef"),
		"zzzzzz": 123 * 21 % 9973 % 4} {
		if got, code := impl.BucketOf(key); got != want || code != impl.OK {
			t.Error("BucketOf", key, got, code, "not", want)
		}
	}
	for _, key := range rightKeys {
		if got, code := impl.BucketOf(key); got != bucketTold(key) || code != impl.OK {
			t.Error("BucketOf", key, got, code)
		}
	}
}

// All keys of up to three letters, and some of each length that follow a rule.
func TestBucketsOfManyKeys(t *testing.T) {
	ask := func(key string) {
		if got, code := impl.BucketOf(key); got != bucketTold(key) || code != impl.OK {
			t.Fatal("BucketOf", key, got, code, "not", bucketTold(key))
		}
	}
	for i := range 26 {
		one := string(rune('a' + i))
		ask(one)
		for size := 2; size <= 6; size++ {
			ask(strings.Repeat(one, size))
		}
		for k := range 26 {
			two := one + string(rune('a'+k))
			ask(two)
			ask(two + "zz" + two)
			for m := range 26 {
				ask(two + string(rune('a'+m)))
			}
		}
	}
}

func TestBucketsOfWrongKeys(t *testing.T) {
	for _, key := range wrongKeys {
		if got, code := impl.BucketOf(key); got != 0 || code != impl.ErrKey {
			t.Error("BucketOf", short(key), got, code)
		}
	}
	for _, key := range longKeys {
		if got, code := impl.BucketOf(key); got != 0 || code != impl.ErrLong {
			t.Error("BucketOf", short(key), got, code)
		}
	}
}

func TestBucketsOfANewNode(t *testing.T) {
	for id := range impl.Nodes {
		x := node{Id: id}
		if got, code := impl.Digest(x); !slices.Equal(got, []int{0, 0, 0, 0}) || code != impl.OK {
			t.Error("Digest", id, got, code)
		}
		bucketsAsTold(t, x)
		for other := range impl.Nodes {
			if got, code := impl.DiffBuckets(x, node{Id: other}); len(got) != 0 || code != impl.OK {
				t.Error("DiffBuckets", id, other, got, code)
			}
		}
	}
}

// Told in numbers: "a" is of bucket 2, "b" of 3, "zzzzzz" too.
func TestBucketsOfASmallNode(t *testing.T) {
	x := nodeTold(t, 0, 4, someRecords...)
	want := []int{0, 0, sumTold("a 2.0.0|a2=6\n"), sumTold("b 3.0.4|a1=5|a3=7|c4!\nzzzzzz 4.9.0|a4!\n")}
	if got, code := impl.Digest(x); !slices.Equal(got, want) || code != impl.OK {
		t.Error("Digest", got, code, "not", want)
	}
	for bucket, keys := range [][]string{nil, nil, {"a"}, {"b", "zzzzzz"}} {
		if got, code := impl.KeysIn(x, bucket); !slices.Equal(got, keys) || code != impl.OK {
			t.Error("KeysIn", bucket, got, code)
		}
	}
	if got, code := impl.DiffBuckets(x, node{Id: 1}); !slices.Equal(got, []int{2, 3}) || code != impl.OK {
		t.Error("DiffBuckets", got, code)
	}
}

func TestBucketsOfRightNodes(t *testing.T) {
	all := rightNodes(t)
	for _, x := range all {
		bucketsAsTold(t, x)
		for _, y := range all {
			unlikeAsTold(t, x, y)
		}
	}
}

func TestKeysInOutOfRange(t *testing.T) {
	for _, x := range []node{{Id: 1}, nodeTold(t, 0, 3, someRecords...), crowdedNodes(t).keys} {
		for _, bucket := range []int{math.MinInt, -impl.Buckets, -1, impl.Buckets, impl.Buckets + 1, 1 << 32, math.MaxInt} {
			if got, code := impl.KeysIn(x, bucket); len(got) != 0 || code != impl.ErrRange {
				t.Error("KeysIn", short(x), bucket, got, code)
			}
		}
	}
}

// ErrBad comes ahead of ErrRange, whichever of two nodes is wrong.
func TestBucketsOfWrongNodes(t *testing.T) {
	some := nodeTold(t, 0, 3, someRecords...)
	for i, x := range wrongNodes(t) {
		if got, code := impl.Digest(x); len(got) != 0 || code != impl.ErrBad {
			t.Fatal("Digest of wrong node", i, got, code)
		}
		for _, bucket := range []int{math.MinInt, -1, 0, 1, 2, 3, 4, math.MaxInt} {
			if got, code := impl.KeysIn(x, bucket); len(got) != 0 || code != impl.ErrBad {
				t.Fatal("KeysIn of wrong node", i, bucket, got, code)
			}
		}
		for _, pair := range [][2]node{{x, some}, {some, x}, {x, x}, {x, {}}, {{Id: 2}, x}} {
			if got, code := impl.DiffBuckets(pair[0], pair[1]); len(got) != 0 || code != impl.ErrBad {
				t.Fatal("DiffBuckets of wrong node", i, got, code)
			}
		}
	}
}

// All keys in one bucket, up to MaxKeys of them.
func TestOneBucketWithAllKeys(t *testing.T) {
	for bucket := range impl.Buckets {
		keys := bucketKeys(bucket, impl.MaxKeys)
		if len(keys) != impl.MaxKeys {
			t.Fatal("too few keys of bucket", bucket)
		}
		records := puts(1, impl.MaxKeys, func(n int) string { return keys[impl.MaxKeys-n] })
		x := nodeTold(t, 0, 50, records...)
		bucketsAsTold(t, x)
		if got, code := impl.KeysIn(x, bucket); !slices.Equal(got, keys) || code != impl.OK {
			t.Error("KeysIn", bucket, got, code)
		}
		for _, less := range []int{0, 1, impl.MaxKeys - 1} {
			if got := unlikeAsTold(t, x, nodeTold(t, 0, 0, records[:less]...)); !slices.Equal(got, []int{bucket}) {
				t.Error("DiffBuckets", bucket, less, got)
			}
		}
	}
}

// longObj tells an object of node 1's last events, whose text has 8 bytes, 10 of each sibling with a value of three
// digits, and 8 of each with a value of one.
func longObj(three, one int) string {
	text := "0.9999.0"
	for n := range three + one {
		value := 999 - n
		if n >= three {
			value = 7
		}
		text += fmt.Sprintf("|b%d=%d", 9900+n, value)
	}
	return text
}

// longRecords make a bucket's text of so many keys with all the siblings that there can be, and one key more.
func longRecords(keys []string, full int, last string) []string {
	var records []string
	for _, key := range keys[:full] {
		records = append(records, "join "+key+" "+longObj(impl.MaxSibs, 0))
	}
	return append(records, "join "+keys[full]+" "+last)
}

// A text is as long as it is: MaxText bytes, one less, one more, and nearly twice as many.
func TestLongBuckets(t *testing.T) {
	for bucket := range impl.Buckets {
		keys := bucketKeys(bucket, impl.MaxKeys)
		near := longObj(74, 2)
		for _, c := range []struct {
			full, size int
			last       string
		}{
			{64, impl.MaxText, near},
			{64, impl.MaxText - 1, strings.Replace(near, "=99", "=9", 1)},
			{64, impl.MaxText + 1, near + "7"},
			{64, impl.MaxText + 2, near + "77"},
			{99, 99*1012 + 1012, longObj(impl.MaxSibs, 0)},
		} {
			x := nodeTold(t, 0, 9, longRecords(keys, c.full, c.last)...)
			if text := textsTold(x)[bucket]; len(text) != c.size {
				t.Fatal("the text has", len(text), "bytes, not", c.size)
			}
			bucketsAsTold(t, x)
			// far behind MaxText, the last sibling's value is another
			changed := c.last[:len(c.last)-1] + "1"
			y := nodeTold(t, 2, 0, longRecords(keys, c.full, changed)...)
			if got := unlikeAsTold(t, x, y); !slices.Equal(got, []int{bucket}) {
				t.Error("DiffBuckets", bucket, c.size, got)
			}
			z := nodeTold(t, 2, 0, longRecords(keys, c.full, c.last)...)
			if got := unlikeAsTold(t, x, z); len(got) != 0 {
				t.Error("DiffBuckets of the same", bucket, c.size, got)
			}
		}
	}
}
