package tests

import (
	"slices"
	"testing"

	"loop.example/g00535/impl"
)

// Promise 8: each key has two owners and one fallback, all unlike.
func TestEachKeyHasTwoOwnersAndAFallback(t *testing.T) {
	for _, key := range ringKeys() {
		owners, ownersCode := impl.Owners(key)
		last, lastCode := impl.Fallback(key)
		if ownersCode != impl.OK || lastCode != impl.OK || len(owners) != 2 {
			t.Fatal("Owners and Fallback", key, owners, ownersCode, last, lastCode)
		}
		all := append(slices.Clone(owners), last)
		slices.Sort(all)
		if !slices.Equal(all, []int{0, 1, 2}) {
			t.Fatal("not all unlike", key, owners, last)
		}
	}
}

// The owners are just those that own the key, and both lists begin with the same nodes.
func TestOwnersOwnTheirKeys(t *testing.T) {
	for _, key := range ringKeys() {
		owners, _ := impl.Owners(key)
		last, _ := impl.Fallback(key)
		list, code := impl.Preference(key)
		if code != impl.OK || !slices.Equal(list, append(slices.Clone(owners), last)) {
			t.Fatal("Preference", key, list, code, owners, last)
		}
		for node := range impl.Nodes {
			if owns, code := impl.OwnsKey(node, key); owns != slices.Contains(owners, node) || owns == (node == last) || code != impl.OK {
				t.Fatal("OwnsKey", node, key, owns, code, owners, last)
			}
		}
	}
}

// No node is left without keys of its own, nor is one the owner of all.
func TestEachNodeIsOwnerAndFallback(t *testing.T) {
	var first, second, last [impl.Nodes]int
	for _, key := range ringKeys() {
		list, code := impl.Preference(key)
		if code != impl.OK || len(list) != impl.Nodes {
			t.Fatal("Preference", key, list, code)
		}
		first[list[0]]++
		second[list[1]]++
		last[list[2]]++
	}
	for node := range impl.Nodes {
		if first[node] == 0 || second[node] == 0 || last[node] == 0 {
			t.Error("node", node, first, second, last)
		}
	}
}
