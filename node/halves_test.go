package node_test

import (
	"slices"
	"testing"

	"transom/api"
	"transom/node"
)

func TestSplitOfALeaf(t *testing.T) {
	for _, c := range []struct {
		n, a api.Node
		key  string
		b    api.Node
	}{
		{leaf(1, "a b", 1, 2), leaf(2, "a", 1), "b", leaf(1, "b", 2)},
		{leaf(1, ". a", 1, 2), leaf(2, ".", 1), "a", leaf(1, "a", 2)},
		{leaf(0, "a b c", 1, 2, 3), leaf(1, "a b", 1, 2), "c", leaf(1, "c", 3)},
		{leaf(7, "a b c d", 1, 2, 3, 4), leaf(8, "a b", 1, 2), "c", leaf(1, "c d", 3, 4)},
		{leaf(7, "a b c d e", 1, 2, 3, 4, 5), leaf(8, "a b c", 1, 2, 3), "d", leaf(1, "d e", 4, 5)},
		{leaf(7, "a b c d e f", 1, 2, 3, 4, 5, 6), leaf(8, "a b c", 1, 2, 3), "d", leaf(1, "d e f", 4, 5, 6)},
		{leaf(-1, "a aa", 1, 2), leaf(0, "a", 1), "aa", leaf(1, "aa", 2)},
		{leaf(-5, "a aa", 1, 2), leaf(-4, "a", 1), "aa", leaf(1, "aa", 2)},
	} {
		splits(t, c.n, c.a, c.key, c.b)
	}
}

func TestSplitOfANodeWithKids(t *testing.T) {
	for _, c := range []struct {
		n, a api.Node
		key  string
		b    api.Node
	}{
		{kids(1, "b", 1, 2), kids(2, "-", 1), "b", kids(1, "-", 2)},
		{kids(1, ".", 1, 2), kids(2, "-", 1), "", kids(1, "-", 2)},
		{kids(0, "b c", 1, 2, 3), kids(1, "b", 1, 2), "c", kids(1, "-", 3)},
		{kids(7, "b c d", 1, 2, 3, 4), kids(8, "b", 1, 2), "c", kids(1, "d", 3, 4)},
		{kids(7, "b c d e", 1, 2, 3, 4, 5), kids(8, "b c", 1, 2, 3), "d", kids(1, "e", 4, 5)},
		{kids(7, "b c d e f", 1, 2, 3, 4, 5, 6), kids(8, "b c", 1, 2, 3), "d", kids(1, "e f", 4, 5, 6)},
		{kids(-5, "a aa", 1, 2, 3), kids(-4, "a", 1, 2), "aa", kids(1, "-", 3)},
	} {
		splits(t, c.n, c.a, c.key, c.b)
	}
}

// splits holds what Split tells of n against what it should tell.
func splits(t *testing.T, n, a api.Node, key string, b api.Node) {
	t.Helper()
	gotA, gotKey, gotB := node.Split(n)
	is(t, "Split, the first", gotA, a)
	is(t, "Split, the second", gotB, b)
	if gotKey != key {
		t.Errorf("Split(%v) tells the key %q, not %q", n, gotKey, key)
	}
}

func TestSplitOfTooFew(t *testing.T) {
	for _, n := range []api.Node{leaf(0, "-"), leaf(4, "-"), leaf(4, "a", 1), leaf(-4, "a", 1), kids(4, "-", 1), kids(-4, "-", 1)} {
		splits(t, n, n, "", api.Node{})
	}
}

func TestJoin(t *testing.T) {
	for _, c := range []struct {
		a    api.Node
		key  string
		b    api.Node
		want api.Node
	}{
		{leaf(1, "a", 1), "b", leaf(5, "b", 2), leaf(2, "a b", 1, 2)},
		{leaf(1, "a", 1), "z", leaf(5, "b", 2), leaf(2, "a b", 1, 2)}, // no leaf takes the key
		{leaf(1, "a b", 1, 2), "c", leaf(5, "c d", 3, 4), leaf(2, "a b c d", 1, 2, 3, 4)},
		{leaf(1, "a b c", 1, 2, 3), "d", leaf(5, "d e f", 4, 5, 6), leaf(2, "a b c d e f", 1, 2, 3, 4, 5, 6)}, // more than MaxNode
		{leaf(1, "-"), "b", leaf(5, "b c", 2, 3), leaf(2, "b c", 2, 3)},
		{leaf(-3, "a", 1), "b", leaf(-5, "b", 2), leaf(-2, "a b", 1, 2)},
		{kids(1, "-", 1), "b", kids(5, "-", 2), kids(2, "b", 1, 2)},
		{kids(1, "-", 1), "", kids(5, "-", 2), kids(2, ".", 1, 2)},
		{kids(1, "b", 1, 2), "c", kids(5, "-", 3), kids(2, "b c", 1, 2, 3)},
		{kids(1, "-", 1), "b", kids(5, "c d", 2, 3, 4), kids(2, "b c d", 1, 2, 3, 4)},
		{kids(1, "b c", 1, 2, 3), "d", kids(5, "e f", 4, 5, 6), kids(2, "b c d e f", 1, 2, 3, 4, 5, 6)},
		{kids(-1, "b", 1, 2), "a", kids(-5, "a", 3, 4), kids(0, "b a a", 1, 2, 3, 4)}, // no key is asked
	} {
		is(t, "Join", node.Join(c.a, c.key, c.b), c.want)
	}
	for _, a := range leaves() {
		got := node.Join(a, "q", leaf(6, "-"))
		if !got.Leaf || !slices.Equal(got.Keys, a.Keys) || !slices.Equal(got.Refs, a.Refs) {
			t.Errorf("Join(%v) of one that has nothing = %v", a, got)
		}
	}
}

func TestJoinOfTwoSorts(t *testing.T) {
	for _, a := range leaves() {
		for _, b := range parents() {
			is(t, "Join of a leaf and another one", node.Join(a, "q", b), a)
			is(t, "Join of another one and a leaf", node.Join(b, "q", a), b)
		}
	}
}

func TestJoinOfWhatHasNoShape(t *testing.T) {
	for _, n := range shapeless() {
		for _, m := range slices.Concat(leaves(), parents(), shapeless()) {
			is(t, "Join of a node without shape", node.Join(n, "q", m), n)
			is(t, "Join with a node without shape", node.Join(m, "q", n), m)
		}
	}
}

func TestJoinOfSplit(t *testing.T) {
	for _, n := range slices.Concat(leaves(), parents()) {
		if len(n.Refs) < 2 {
			continue
		}
		a, key, b := node.Split(n)
		got := node.Join(a, key, b)
		if got.Version != n.Version+2 {
			t.Errorf("Join of Split of %v has Version %d", n, got.Version)
		}
		got.Version = n.Version
		is(t, "Join of Split", got, n)
	}
}

func TestCallsOfTheOtherSort(t *testing.T) {
	for _, n := range leaves() {
		for _, key := range asked() {
			if at := node.Child(n, key); at != 0 {
				t.Errorf("Child(%v, %q) = %d", n, key, at)
			}
		}
		for _, at := range places() {
			is(t, "Insert to a leaf", node.Insert(n, at, "q", ref(9)), n)
			is(t, "Remove from a leaf", node.Remove(n, at), n)
		}
	}
	for _, n := range parents() {
		for _, key := range asked() {
			noLeaf(t, n, key)
		}
	}
}

// noLeaf holds what the calls for a leaf tell of n, which is none, or has no shape.
func noLeaf(t *testing.T, n api.Node, key string) {
	t.Helper()
	if at, ok := node.Find(n, key); at != 0 || ok {
		t.Errorf("Find(%v, %q) = %d, %v", n, key, at, ok)
	}
	got, ok := node.Put(n, key, ref(9))
	is(t, "Put to no leaf", got, n)
	if ok {
		t.Errorf("Put(%v, %q) = true", n, key)
	}
	got, r, ok := node.Delete(n, key)
	is(t, "Delete from no leaf", got, n)
	if r != (api.Ref{}) || ok {
		t.Errorf("Delete(%v, %q) = %v, %v", n, key, r, ok)
	}
}

func TestCallsOfWhatHasNoShape(t *testing.T) {
	for _, n := range shapeless() {
		for _, key := range asked() {
			noLeaf(t, n, key)
			if at := node.Child(n, key); at != 0 {
				t.Errorf("Child(%v, %q) = %d", n, key, at)
			}
		}
		for _, at := range places() {
			is(t, "Insert", node.Insert(n, at, "q", ref(9)), n)
			is(t, "Remove", node.Remove(n, at), n)
		}
		splits(t, n, n, "", api.Node{})
	}
}
