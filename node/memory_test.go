package node_test

import (
	"slices"
	"testing"

	"transom/api"
	"transom/node"
	"transom/sample"
)

// call is a call that tells nodes: of n, and of another one.
type call struct {
	name  string
	tells func(n, other api.Node) []api.Node
}

// calls tells all that a node may be asked for that tells nodes.
func calls() []call {
	return []call{
		{"Put of a new key", func(n, _ api.Node) []api.Node { m, _ := node.Put(n, "d", ref(9)); return []api.Node{m} }},
		{"Put of a key behind all", func(n, _ api.Node) []api.Node { m, _ := node.Put(n, "z", ref(9)); return []api.Node{m} }},
		{"Put of a key that is there", func(n, _ api.Node) []api.Node { m, _ := node.Put(n, "c", ref(9)); return []api.Node{m} }},
		{"Delete", func(n, _ api.Node) []api.Node { m, _, _ := node.Delete(n, "c"); return []api.Node{m} }},
		{"Delete of none", func(n, _ api.Node) []api.Node { m, _, _ := node.Delete(n, "d"); return []api.Node{m} }},
		{"Insert", func(n, _ api.Node) []api.Node { return []api.Node{node.Insert(n, 0, "b", ref(9))} }},
		{"Insert behind the last", func(n, _ api.Node) []api.Node { return []api.Node{node.Insert(n, len(n.Refs)-1, "z", ref(9))} }},
		{"Insert at -1", func(n, _ api.Node) []api.Node { return []api.Node{node.Insert(n, -1, "b", ref(9))} }},
		{"Remove", func(n, _ api.Node) []api.Node { return []api.Node{node.Remove(n, 0)} }},
		{"Remove of the last", func(n, _ api.Node) []api.Node { return []api.Node{node.Remove(n, len(n.Refs)-1)} }},
		{"Remove at -1", func(n, _ api.Node) []api.Node { return []api.Node{node.Remove(n, -1)} }},
		{"Split", func(n, _ api.Node) []api.Node { a, _, b := node.Split(n); return []api.Node{a, b} }},
		{"Join", func(n, other api.Node) []api.Node { return []api.Node{node.Join(n, "q", other)} }},
	}
}

// roomy tells n in memory of its own, with room behind its lists.
func roomy(n api.Node) api.Node {
	n.Keys, n.Refs = sample.Roomy(n.Keys, "spare"), sample.Roomy(n.Refs, ref(-1))
	return n
}

// kept tells whether n, which roomy told of was, is as it was, and so is what stands behind its lists.
func kept(n, was api.Node) bool {
	return alike(n, was) && sample.Kept(n.Keys, was.Keys, "spare", func(a, b string) bool { return a == b }) &&
		sample.Kept(n.Refs, was.Refs, ref(-1), func(a, b api.Ref) bool { return a == b })
}

// scribble writes to all of n's memory.
func scribble(n api.Node) {
	sample.Scribble(n.Keys, "scribble")
	sample.Scribble(n.Refs, ref(-2))
}

// copied tells n in memory of its own.
func copied(n api.Node) api.Node {
	n.Keys, n.Refs = slices.Clone(n.Keys), slices.Clone(n.Refs)
	return n
}

func TestWhatIsHandedInStaysAndIsNotKept(t *testing.T) {
	all := slices.Concat(leaves(), parents(), shapeless())
	for _, c := range calls() {
		for _, n := range all {
			for _, other := range all {
				a, b := roomy(n), roomy(other)
				told := c.tells(a, b)
				if !kept(a, n) || !kept(b, other) {
					t.Fatalf("%s changes %v or %v", c.name, n, other)
				}
				var was []api.Node
				for _, m := range told {
					was = append(was, copied(m))
				}
				scribble(a)
				scribble(b)
				if !slices.EqualFunc(told, was, alike) {
					t.Fatalf("%s of %v and %v shares memory with them", c.name, n, other)
				}
			}
		}
	}
}

func TestWhatIsToldIsApart(t *testing.T) {
	all := slices.Concat(leaves(), parents(), shapeless())
	for _, c := range calls() {
		for _, n := range all {
			for _, other := range all {
				a, b := roomy(n), roomy(other)
				told := c.tells(a, b)
				was := make([]api.Node, len(told))
				for i, m := range told {
					was[i] = copied(m)
				}
				for i, m := range told {
					if !alike(m, was[i]) {
						t.Fatalf("%s of %v and %v tells nodes that share memory", c.name, n, other)
					}
					scribble(m)
				}
				if !kept(a, n) || !kept(b, other) {
					t.Fatalf("%s of %v and %v tells their memory", c.name, n, other)
				}
			}
		}
	}
}
