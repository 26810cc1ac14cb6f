package node_test

import (
	"slices"
	"strings"
	"testing"

	"transom/api"
	"transom/node"
)

// ref tells a ref that is like no other's of another number.
func ref(i int) api.Ref {
	return api.Ref{Slot: i, Gen: i + 100}
}

// refs tells the refs of those numbers.
func refs(l ...int) []api.Ref {
	var out []api.Ref
	for _, i := range l {
		out = append(out, ref(i))
	}
	return out
}

// leaf tells a leaf of those keys, and of the refs of those numbers; "-" is no key.
func leaf(version int, keys string, l ...int) api.Node {
	return api.Node{Leaf: true, Version: version, Keys: split(keys), Refs: refs(l...)}
}

// kids tells a node with kids: with those keys, and the refs of those numbers.
func kids(version int, keys string, l ...int) api.Node {
	return api.Node{Version: version, Keys: split(keys), Refs: refs(l...)}
}

// split tells keys that stand in a text side by side, "-" none, and "." the empty one.
func split(keys string) []string {
	if keys == "-" {
		return nil
	}
	l := strings.Split(keys, " ")
	for i, k := range l {
		if k == "." {
			l[i] = ""
		}
	}
	return l
}

// alike tells whether a and b are the same in all; a list of nothing may be nil or not.
func alike(a, b api.Node) bool {
	return a.Leaf == b.Leaf && a.Version == b.Version && slices.Equal(a.Keys, b.Keys) && slices.Equal(a.Refs, b.Refs)
}

// is holds a node against what it should be.
func is(t *testing.T, what string, got, want api.Node) {
	t.Helper()
	if !alike(got, want) {
		t.Fatalf("%s = %v, not %v", what, got, want)
	}
}

// shapeless tells nodes that have no shape.
func shapeless() []api.Node {
	return []api.Node{
		{},
		{Version: 3},
		kids(2, "b"),
		kids(2, "b c"),
		kids(2, "b", 1),
		kids(2, "b c", 1, 2),
		kids(2, "b c d", 1),
		kids(2, "-", 1, 2),
		kids(2, "b", 1, 2, 3),
		kids(-1, "b", 1, 2, 3, 4),
		leaf(2, "b"),
		leaf(2, "b c", 1),
		leaf(2, "b c d", 1),
		leaf(2, "-", 1),
		leaf(2, "b", 1, 2),
		leaf(2, "b c", 1, 2, 3),
		leaf(0, "b c", 1, 2, 3, 4, 5, 6),
	}
}

// leaves tells leaves of none, one, several keys, and more than MaxNode of them.
func leaves() []api.Node {
	return []api.Node{
		leaf(0, "-"),
		leaf(1, "c", 1),
		leaf(2, "c e", 1, 2),
		leaf(9, "c e g i", 1, 2, 3, 4),
		leaf(3, "c e g i k m o", 1, 2, 3, 4, 5, 6, 7),
		leaf(1, ". a aa b", 1, 2, 3, 4),
		leaf(-4, "c e g", 1, 2, 3),
	}
}

// parents tells nodes with one kid, two, several, and more than MaxNode of them.
func parents() []api.Node {
	return []api.Node{
		kids(1, "-", 1),
		kids(0, "c", 1, 2),
		kids(2, "c e", 1, 2, 3),
		kids(7, "c e g", 1, 2, 3, 4),
		kids(3, "c e g i k m", 1, 2, 3, 4, 5, 6, 7),
		kids(1, ". a aa", 1, 2, 3, 4),
		kids(-4, "c e g", 1, 2, 3, 4),
	}
}

// asked tells keys below, among and above those of leaves and parents.
func asked() []string {
	return []string{"", "\x00", "a", "a\x00", "aa", "aaa", "ab", "b", "c", "c\x00", "d", "e", "f", "g", "i", "j", "k", "m", "n", "o", "p", "\xff"}
}

// places tells places below, among and above those of kids.
func places() []int {
	return []int{api.MinInt, -2, -1, 0, 1, 2, 3, 4, 5, 6, 7, 8, 100, 1 << 32, api.MaxInt}
}

func TestExamples(t *testing.T) {
	n := leaf(0, "a b c d e", 1, 2, 3, 4, 5)
	a, key, b := node.Split(n)
	if len(a.Keys) != 3 || len(a.Refs) != 3 || len(b.Keys) != 2 || len(b.Refs) != 2 || key != "d" {
		t.Fatalf("Split of a leaf of five = %v, %q, %v", a, key, b)
	}
}

func TestSize(t *testing.T) {
	for _, n := range slices.Concat(leaves(), parents(), shapeless()) {
		if got := node.Size(n); got != len(n.Refs) {
			t.Errorf("Size(%v) = %d", n, got)
		}
	}
}

func TestCheck(t *testing.T) {
	for _, c := range []struct {
		n    api.Node
		want bool
	}{
		{leaf(0, "-"), true},
		{leaf(1, "a", 1), true},
		{leaf(api.MaxInt, "a", 1), true},
		{leaf(1, ".", 1), true},
		{leaf(1, ". \x00", 1, 2), true},
		{leaf(1, "a aa", 1, 2), true},
		{leaf(1, "B a", 1, 2), true},
		{leaf(1, "\x7f \x80", 1, 2), true}, // by bytes
		{leaf(1, "a b c d", 4, 3, 2, 1), true},
		{leaf(1, "a b c d", 1, 1, 1, 1), true}, // refs need not rise
		{leaf(1, "a b c d e", 1, 2, 3, 4, 5), false},
		{leaf(1, "a b c d e f g h", 1, 2, 3, 4, 5, 6, 7, 8), false},
		{leaf(-1, "a b", 1, 2), false},
		{leaf(api.MinInt, "-"), false},
		{leaf(1, "a a", 1, 2), false},
		{leaf(1, ". .", 1, 2), false},
		{leaf(1, "b a", 1, 2), false},
		{leaf(1, "aa a", 1, 2), false},
		{leaf(1, "a c b d", 1, 2, 3, 4), false},
		{leaf(1, "a b d c", 1, 2, 3, 4), false},
		{kids(0, "-", 1), true},
		{kids(1, "a", 1, 2), true},
		{kids(1, ".", 1, 2), true},
		{kids(1, "a b c", 1, 2, 3, 4), true},
		{kids(1, "a b c d", 1, 2, 3, 4, 5), false}, // MaxNode refs, not keys
		{kids(-1, "a", 1, 2), false},
		{kids(1, "a a", 1, 2, 3), false},
		{kids(1, "b a", 1, 2, 3), false},
		{kids(1, "b c a", 1, 2, 3, 4), false},
	} {
		if got := node.Check(c.n); got != c.want {
			t.Errorf("Check(%v) = %v", c.n, got)
		}
	}
	for _, n := range shapeless() {
		if node.Check(n) {
			t.Errorf("Check(%v) = true", n)
		}
	}
}

func TestFind(t *testing.T) {
	for _, c := range []struct {
		n    api.Node
		key  string
		at   int
		want bool
	}{
		{leaf(0, "-"), "", 0, false},
		{leaf(0, "-"), "a", 0, false},
		{leaf(1, "c", 1), "", 0, false},
		{leaf(1, "c", 1), "b", 0, false},
		{leaf(1, "c", 1), "c", 0, true},
		{leaf(1, "c", 1), "c\x00", 1, false},
		{leaf(1, "c", 1), "d", 1, false},
		{leaf(1, "c e g", 1, 2, 3), "a", 0, false},
		{leaf(1, "c e g", 1, 2, 3), "c", 0, true},
		{leaf(1, "c e g", 1, 2, 3), "d", 1, false},
		{leaf(1, "c e g", 1, 2, 3), "e", 1, true},
		{leaf(1, "c e g", 1, 2, 3), "f", 2, false},
		{leaf(1, "c e g", 1, 2, 3), "g", 2, true},
		{leaf(1, "c e g", 1, 2, 3), "h", 3, false},
		{leaf(1, ". a aa ab", 1, 2, 3, 4), "", 0, true},
		{leaf(1, ". a aa ab", 1, 2, 3, 4), "\x00", 1, false},
		{leaf(1, ". a aa ab", 1, 2, 3, 4), "a", 1, true},
		{leaf(1, ". a aa ab", 1, 2, 3, 4), "a\x00", 2, false},
		{leaf(1, ". a aa ab", 1, 2, 3, 4), "aa", 2, true},
		{leaf(1, ". a aa ab", 1, 2, 3, 4), "aaa", 3, false},
		{leaf(1, ". a aa ab", 1, 2, 3, 4), "b", 4, false},
		{leaf(1, "a b c d e f g", 1, 2, 3, 4, 5, 6, 7), "f", 5, true},
		{leaf(1, "a b c d e f g", 1, 2, 3, 4, 5, 6, 7), "z", 7, false},
		{leaf(-1, "a b", 1, 2), "b", 1, true},
		{leaf(1, "\x7f \x80", 1, 2), "\x80", 1, true},
	} {
		if at, ok := node.Find(c.n, c.key); at != c.at || ok != c.want {
			t.Errorf("Find(%v, %q) = %d, %v", c.n, c.key, at, ok)
		}
	}
}

func TestChild(t *testing.T) {
	for _, c := range []struct {
		n    api.Node
		key  string
		want int
	}{
		{kids(0, "-", 1), "", 0},
		{kids(0, "-", 1), "z", 0},
		{kids(1, "c", 1, 2), "", 0},
		{kids(1, "c", 1, 2), "b", 0},
		{kids(1, "c", 1, 2), "c", 1},
		{kids(1, "c", 1, 2), "d", 1},
		{kids(1, "c e g", 1, 2, 3, 4), "b", 0},
		{kids(1, "c e g", 1, 2, 3, 4), "c", 1},
		{kids(1, "c e g", 1, 2, 3, 4), "d", 1},
		{kids(1, "c e g", 1, 2, 3, 4), "e", 2},
		{kids(1, "c e g", 1, 2, 3, 4), "f", 2},
		{kids(1, "c e g", 1, 2, 3, 4), "g", 3},
		{kids(1, "c e g", 1, 2, 3, 4), "h", 3},
		{kids(1, ". a aa", 1, 2, 3, 4), "", 1},
		{kids(1, ". a aa", 1, 2, 3, 4), "\x00", 1},
		{kids(1, ". a aa", 1, 2, 3, 4), "a", 2},
		{kids(1, ". a aa", 1, 2, 3, 4), "a\x00", 2},
		{kids(1, ". a aa", 1, 2, 3, 4), "aa", 3},
		{kids(1, "c e g i k", 1, 2, 3, 4, 5, 6), "j", 4},
		{kids(1, "c e g i k", 1, 2, 3, 4, 5, 6), "k", 5},
		{kids(-9, "c", 1, 2), "c", 1},
	} {
		if got := node.Child(c.n, c.key); got != c.want {
			t.Errorf("Child(%v, %q) = %d", c.n, c.key, got)
		}
	}
}

func TestKeysThatDoNotRise(t *testing.T) {
	n := leaf(1, "c a e b c", 1, 2, 3, 4, 5)
	for _, c := range []struct {
		key  string
		at   int
		want bool
	}{{"a", 0, false}, {"b", 0, false}, {"c", 0, true}, {"d", 2, false}, {"e", 2, true}, {"f", 5, false}} {
		if at, ok := node.Find(n, c.key); at != c.at || ok != c.want {
			t.Errorf("Find(%v, %q) = %d, %v", n, c.key, at, ok)
		}
	}
	m := kids(1, "c a e b c", 1, 2, 3, 4, 5, 6)
	for _, c := range []struct {
		key string
		at  int
	}{{"", 0}, {"a", 1}, {"b", 2}, {"c", 4}, {"d", 4}, {"e", 5}, {"f", 5}} {
		if at := node.Child(m, c.key); at != c.at {
			t.Errorf("Child(%v, %q) = %d", m, c.key, at)
		}
	}
	got, fresh := node.Put(n, "d", ref(9))
	is(t, "Put of d", got, leaf(2, "c a d e b c", 1, 2, 9, 3, 4, 5))
	if !fresh {
		t.Error("Put of d = false")
	}
	got, r, ok := node.Delete(n, "a") // it is not the first key that is not less
	is(t, "Delete of a", got, n)
	if r != (api.Ref{}) || ok {
		t.Errorf("Delete of a = %v, %v", r, ok)
	}
	a, key, b := node.Split(n)
	is(t, "Split, the first", a, leaf(2, "c a e", 1, 2, 3))
	is(t, "Split, the second", b, leaf(1, "b c", 4, 5))
	if key != "b" {
		t.Errorf("Split tells %q", key)
	}
	is(t, "Join", node.Join(leaf(1, "c", 1), "z", leaf(8, "a c", 2, 3)), leaf(2, "c a c", 1, 2, 3))
}

func TestPutOfAKeyThatIsNew(t *testing.T) {
	for _, c := range []struct {
		n    api.Node
		key  string
		want api.Node
	}{
		{leaf(0, "-"), "", leaf(1, ".", 9)},
		{leaf(0, "-"), "a", leaf(1, "a", 9)},
		{leaf(1, "c", 1), "b", leaf(2, "b c", 9, 1)},
		{leaf(1, "c", 1), "", leaf(2, ". c", 9, 1)},
		{leaf(1, "c", 1), "cc", leaf(2, "c cc", 1, 9)},
		{leaf(5, "c e g", 1, 2, 3), "a", leaf(6, "a c e g", 9, 1, 2, 3)},
		{leaf(5, "c e g", 1, 2, 3), "d", leaf(6, "c d e g", 1, 9, 2, 3)},
		{leaf(5, "c e g", 1, 2, 3), "f", leaf(6, "c e f g", 1, 2, 9, 3)},
		{leaf(5, "c e g", 1, 2, 3), "h", leaf(6, "c e g h", 1, 2, 3, 9)},
		{leaf(1, "a aaa", 1, 2), "aa", leaf(2, "a aa aaa", 1, 9, 2)},
		{leaf(1, "a b c d", 1, 2, 3, 4), "e", leaf(2, "a b c d e", 1, 2, 3, 4, 9)}, // more than MaxNode
		{leaf(1, "a b c d f g", 1, 2, 3, 4, 5, 6), "e", leaf(2, "a b c d e f g", 1, 2, 3, 4, 9, 5, 6)},
		{leaf(-1, "a", 1), "b", leaf(0, "a b", 1, 9)},
		{leaf(api.MinInt, "a", 1), "b", leaf(api.MinInt+1, "a b", 1, 9)},
	} {
		got, ok := node.Put(c.n, c.key, ref(9))
		is(t, "Put", got, c.want)
		if !ok {
			t.Errorf("Put(%v, %q) = false", c.n, c.key)
		}
	}
}

func TestPutOfAKeyThatIsThere(t *testing.T) {
	for _, c := range []struct {
		n    api.Node
		key  string
		want api.Node
	}{
		{leaf(1, "c", 1), "c", leaf(2, "c", 9)},
		{leaf(1, ".", 1), "", leaf(2, ".", 9)},
		{leaf(5, "c e g", 1, 2, 3), "c", leaf(6, "c e g", 9, 2, 3)},
		{leaf(5, "c e g", 1, 2, 3), "e", leaf(6, "c e g", 1, 9, 3)},
		{leaf(5, "c e g", 1, 2, 3), "g", leaf(6, "c e g", 1, 2, 9)},
		{leaf(1, "a aa b", 1, 2, 3), "aa", leaf(2, "a aa b", 1, 9, 3)},
		{leaf(0, "a b c d e", 1, 2, 3, 4, 5), "e", leaf(1, "a b c d e", 1, 2, 3, 4, 9)},
		{leaf(-7, "a b", 1, 2), "a", leaf(-6, "a b", 9, 2)},
	} {
		got, ok := node.Put(c.n, c.key, ref(9))
		is(t, "Put", got, c.want)
		if ok {
			t.Errorf("Put(%v, %q) = true", c.n, c.key)
		}
	}
	got, ok := node.Put(leaf(1, "a b", 1, 2), "b", api.Ref{}) // the zero ref is as good as any
	is(t, "Put of the zero ref", got, api.Node{Leaf: true, Version: 2, Keys: []string{"a", "b"}, Refs: []api.Ref{ref(1), {}}})
	if ok {
		t.Error("Put of the zero ref = true")
	}
}

func TestDelete(t *testing.T) {
	for _, c := range []struct {
		n    api.Node
		key  string
		want api.Node
		r    int
	}{
		{leaf(1, "c", 7), "c", leaf(2, "-"), 7},
		{leaf(1, ".", 7), "", leaf(2, "-"), 7},
		{leaf(5, "c e g", 1, 2, 3), "c", leaf(6, "e g", 2, 3), 1},
		{leaf(5, "c e g", 1, 2, 3), "e", leaf(6, "c g", 1, 3), 2},
		{leaf(5, "c e g", 1, 2, 3), "g", leaf(6, "c e", 1, 2), 3},
		{leaf(1, "a aa b", 1, 2, 3), "a", leaf(2, "aa b", 2, 3), 1},
		{leaf(0, "a b c d e", 1, 2, 3, 4, 5), "d", leaf(1, "a b c e", 1, 2, 3, 5), 4},
		{leaf(-1, "a b", 1, 2), "a", leaf(0, "b", 2), 1},
	} {
		got, r, ok := node.Delete(c.n, c.key)
		is(t, "Delete", got, c.want)
		if r != ref(c.r) || !ok {
			t.Errorf("Delete(%v, %q) = %v, %v", c.n, c.key, r, ok)
		}
	}
}

func TestDeleteOfAKeyThatIsNotThere(t *testing.T) {
	for _, n := range leaves() {
		for _, key := range asked() {
			if slices.Contains(n.Keys, key) {
				continue
			}
			got, r, ok := node.Delete(n, key)
			is(t, "Delete", got, n)
			if r != (api.Ref{}) || ok {
				t.Errorf("Delete(%v, %q) = %v, %v", n, key, r, ok)
			}
		}
	}
}

func TestInsert(t *testing.T) {
	for _, c := range []struct {
		n    api.Node
		at   int
		key  string
		want api.Node
	}{
		{kids(0, "-", 1), 0, "m", kids(1, "m", 1, 9)},
		{kids(0, "-", 1), 0, "", kids(1, ".", 1, 9)},
		{kids(1, "c", 1, 2), 0, "b", kids(2, "b c", 1, 9, 2)},
		{kids(1, "c", 1, 2), 1, "d", kids(2, "c d", 1, 2, 9)},
		{kids(6, "c e g", 1, 2, 3, 4), 0, "b", kids(7, "b c e g", 1, 9, 2, 3, 4)},
		{kids(6, "c e g", 1, 2, 3, 4), 1, "d", kids(7, "c d e g", 1, 2, 9, 3, 4)},
		{kids(6, "c e g", 1, 2, 3, 4), 2, "f", kids(7, "c e f g", 1, 2, 3, 9, 4)},
		{kids(6, "c e g", 1, 2, 3, 4), 3, "h", kids(7, "c e g h", 1, 2, 3, 4, 9)},
		{kids(6, "c e g h", 1, 2, 3, 4, 5), 4, "i", kids(7, "c e g h i", 1, 2, 3, 4, 5, 9)},
		{kids(6, "c e g", 1, 2, 3, 4), 1, "z", kids(7, "c z e g", 1, 2, 9, 3, 4)}, // the place alone says where
		{kids(6, "c e g", 1, 2, 3, 4), 1, "c", kids(7, "c c e g", 1, 2, 9, 3, 4)},
		{kids(-1, "c", 1, 2), 0, "b", kids(0, "b c", 1, 9, 2)},
	} {
		is(t, "Insert", node.Insert(c.n, c.at, c.key, ref(9)), c.want)
	}
}

func TestRemove(t *testing.T) {
	for _, c := range []struct {
		n    api.Node
		at   int
		want api.Node
	}{
		{kids(3, "-", 1), 0, kids(4, "-")}, // which has no shape
		{kids(1, "c", 1, 2), 0, kids(2, "-", 2)},
		{kids(1, "c", 1, 2), 1, kids(2, "-", 1)},
		{kids(6, "c e g", 1, 2, 3, 4), 0, kids(7, "e g", 2, 3, 4)},
		{kids(6, "c e g", 1, 2, 3, 4), 1, kids(7, "e g", 1, 3, 4)},
		{kids(6, "c e g", 1, 2, 3, 4), 2, kids(7, "c g", 1, 2, 4)},
		{kids(6, "c e g", 1, 2, 3, 4), 3, kids(7, "c e", 1, 2, 3)},
		{kids(0, "c e g i k", 1, 2, 3, 4, 5, 6), 4, kids(1, "c e g k", 1, 2, 3, 4, 6)},
		{kids(0, "c e g i k", 1, 2, 3, 4, 5, 6), 5, kids(1, "c e g i", 1, 2, 3, 4, 5)},
		{kids(-2, "c", 1, 2), 1, kids(-1, "-", 1)},
	} {
		is(t, "Remove", node.Remove(c.n, c.at), c.want)
	}
}

func TestPlacesOfNoKid(t *testing.T) {
	for _, n := range parents() {
		for _, at := range places() {
			if at >= 0 && at < len(n.Refs) {
				continue
			}
			is(t, "Insert", node.Insert(n, at, "q", ref(9)), n)
			is(t, "Remove", node.Remove(n, at), n)
		}
	}
}
