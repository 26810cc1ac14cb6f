package node_test

import (
	"cmp"
	"math/rand"
	"slices"
	"testing"

	"transom/api"
	"transom/node"
	"transom/sample"
)

// pair is a key and its ref: of a leaf; or a kid and the key ahead of it, of another one, whose first kid has none.
type pair struct {
	key string
	ref api.Ref
}

// plain tells n, which has a shape, as pairs.
func plain(n api.Node) []pair {
	keys := n.Keys
	if !n.Leaf {
		keys = append([]string{""}, keys...)
	}
	out := make([]pair, len(keys))
	for i, k := range keys {
		out[i] = pair{k, n.Refs[i]}
	}
	return out
}

// back tells pairs as a node; the first one's key is none, if it is no leaf.
func back(isLeaf bool, version int, l []pair) api.Node {
	n := api.Node{Leaf: isLeaf, Version: version}
	for i, p := range l {
		if isLeaf || i > 0 {
			n.Keys = append(n.Keys, p.key)
		}
		n.Refs = append(n.Refs, p.ref)
	}
	return n
}

// anyKey tells a short key, often one of a few.
func anyKey(d sample.Dice) string {
	b := make([]byte, d(4))
	for i := range b {
		b[i] = "\x00ab\xff"[d(4)]
	}
	return string(b)
}

// anyNode tells a node that has a shape, of up to nine refs, with keys that rise.
func anyNode(d sample.Dice, isLeaf bool) api.Node {
	var keys []string
	for range d(9) {
		keys = append(keys, anyKey(d))
	}
	slices.Sort(keys)
	keys = slices.Compact(keys)
	n := api.Node{Leaf: isLeaf, Version: d(5) - 1, Keys: keys}
	count := len(keys)
	if !isLeaf {
		count++
	}
	for range count {
		n.Refs = append(n.Refs, ref(d(1000)))
	}
	return n
}

func TestLeavesAtRandom(t *testing.T) {
	d := sample.Dice(rand.New(rand.NewSource(17)).Intn)
	for range 20000 {
		n, key, r := anyNode(d, true), anyKey(d), ref(1000+d(1000))
		was := plain(n)
		at, there := slices.BinarySearchFunc(was, key, func(p pair, key string) int { return cmp.Compare(p.key, key) })
		if got, ok := node.Find(n, key); got != at || ok != there {
			t.Fatalf("Find(%v, %q) = %d, %v", n, key, got, ok)
		}
		put := slices.DeleteFunc(slices.Clone(was), func(p pair) bool { return p.key == key })
		put = slices.Insert(put, at, pair{key, r})
		got, fresh := node.Put(n, key, r)
		is(t, "Put", got, back(true, n.Version+1, put))
		if fresh == there {
			t.Fatalf("Put(%v, %q) = %v", n, key, fresh)
		}
		got, gone, ok := node.Delete(n, key)
		if ok != there {
			t.Fatalf("Delete(%v, %q) = %v", n, key, ok)
		}
		if !there {
			is(t, "Delete", got, n)
			continue
		}
		is(t, "Delete", got, back(true, n.Version+1, slices.Delete(slices.Clone(was), at, at+1)))
		if gone != was[at].ref {
			t.Fatalf("Delete(%v, %q) tells %v", n, key, gone)
		}
	}
}

func TestNodesWithKidsAtRandom(t *testing.T) {
	d := sample.Dice(rand.New(rand.NewSource(172)).Intn)
	for range 20000 {
		n, key, r := anyNode(d, false), anyKey(d), ref(1000+d(1000))
		was := plain(n)
		want := 0
		for i, p := range was {
			if i > 0 && p.key <= key {
				want = i
			}
		}
		if got := node.Child(n, key); got != want {
			t.Fatalf("Child(%v, %q) = %d", n, key, got)
		}
		at := d(len(was)+3) - 1
		if at < 0 || at >= len(was) {
			is(t, "Insert", node.Insert(n, at, key, r), n)
			is(t, "Remove", node.Remove(n, at), n)
			continue
		}
		is(t, "Insert", node.Insert(n, at, key, r), back(false, n.Version+1, slices.Insert(slices.Clone(was), at+1, pair{key, r})))
		is(t, "Remove", node.Remove(n, at), back(false, n.Version+1, slices.Delete(slices.Clone(was), at, at+1)))
	}
}

func TestHalvesAtRandom(t *testing.T) {
	d := sample.Dice(rand.New(rand.NewSource(173)).Intn)
	for range 20000 {
		n := anyNode(d, d(2) == 0)
		was := plain(n)
		if len(was) < 2 {
			splits(t, n, n, "", api.Node{})
			continue
		}
		half := len(was) - len(was)/2
		splits(t, n, back(n.Leaf, n.Version+1, was[:half]), was[half].key, back(n.Leaf, 1, was[half:]))
		other := anyNode(d, n.Leaf)
		key := anyKey(d)
		behind := plain(other)
		if len(behind) == 0 {
			continue
		}
		if !n.Leaf {
			behind[0].key = key
		}
		is(t, "Join", node.Join(n, key, other), back(n.Leaf, n.Version+1, slices.Concat(was, behind)))
	}
}

// TestALeafThatGrowsAndShrinks asks call by call what a map of keys tells, and whether each change has turned the Version by one.
func TestALeafThatGrowsAndShrinks(t *testing.T) {
	d := sample.Dice(rand.New(rand.NewSource(174)).Intn)
	n, all, version := api.Node{Leaf: true}, map[string]api.Ref{}, 0
	for i := range 5000 {
		key := anyKey(d)
		was, there := all[key]
		if d(2) == 0 {
			m, fresh := node.Put(n, key, ref(i))
			if fresh == there {
				t.Fatalf("Put(%q) = %v", key, fresh)
			}
			n, all[key] = m, ref(i)
			version++
		} else {
			m, r, ok := node.Delete(n, key)
			if r != was || ok != there {
				t.Fatalf("Delete(%q) = %v, %v", key, r, ok)
			}
			if there {
				version++
			}
			n = m
			delete(all, key)
		}
		holds(t, n, all, version)
	}
}

// holds holds a leaf against all keys that it should have.
func holds(t *testing.T, n api.Node, all map[string]api.Ref, version int) {
	t.Helper()
	if n.Version != version || !n.Leaf || len(n.Keys) != len(all) || len(n.Refs) != len(all) || !slices.IsSorted(n.Keys) {
		t.Fatalf("the leaf is %v, not of Version %d and %d keys", n, version, len(all))
	}
	for i, k := range n.Keys {
		if r, ok := all[k]; !ok || r != n.Refs[i] {
			t.Fatalf("the leaf has %v at %q, not %v", n.Refs[i], k, r)
		}
	}
}
