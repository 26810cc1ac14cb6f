package arena_test

import (
	"runtime"
	"slices"
	"testing"
	"weak"

	"transom/api"
	"transom/arena"
	"transom/sample"
)

// keeps holds an arena of things of one type against what it should tell: x and y are two, and neither is the type's zero.
func keeps[T comparable](t *testing.T, x, y T) {
	t.Helper()
	var zero T
	a := arena.New[T](2)
	takes(t, a, x, at(0, 1))
	takes(t, a, y, at(1, 1))
	holds(t, a, at(0, 1), x)
	holds(t, a, at(1, 1), y)
	if !a.Set(at(0, 1), y) || a.Set(at(0, 2), x) {
		t.Errorf("Set of an arena of %T", x)
	}
	holds(t, a, at(0, 1), y)
	freed(t, a, at(0, 1))
	for _, r := range []api.Ref{at(0, 1), at(0, 2), at(2, 1), at(-1, 1)} {
		if z, ok := a.Get(r); z != zero || ok {
			t.Errorf("Get(%v) of an arena of %T = %v, %v", r, x, z, ok)
		}
	}
	takes(t, a, zero, at(0, 2))
	holds(t, a, at(0, 2), zero)
	lives(t, a, 0, at(0, 2), at(1, 1))
	var none *arena.Arena[T]
	if z, ok := none.Get(at(0, 1)); z != zero || ok {
		t.Errorf("Get of no arena of %T = %v, %v", x, z, ok)
	}
}

func TestSlotsOfSeveralTypes(t *testing.T) {
	keeps(t, 5, -6)
	keeps(t, uint8(5), 255)
	keeps(t, 0.5, -2)
	keeps(t, "a", "\x00\xff")
	keeps(t, [3]int{1, 2, 3}, [3]int{3, 2, 1})
	keeps(t, api.Record{Key: "k", Word: 8, Data: "d"}, api.Record{Word: 1})
	keeps(t, at(3, 4), at(4, 3))
	keeps(t, new(int), new(int))
	keeps(t, &api.Node{Leaf: true}, &api.Node{Version: 1})
	keeps[any](t, 5, "5")
	keeps[error](t, fault(1), fault(2))
}

type fault int

func (fault) Error() string { return "" }

func TestSlotsOfLists(t *testing.T) {
	a := arena.New[[]string](2)
	takes(t, a, []string{"a", "b"}, at(0, 1))
	takes(t, a, nil, at(1, 1))
	if l, ok := a.Get(at(0, 1)); !slices.Equal(l, []string{"a", "b"}) || !ok {
		t.Errorf("Get = %v, %v", l, ok)
	}
	if l, ok := a.Get(at(1, 1)); l != nil || !ok {
		t.Errorf("Get = %v, %v", l, ok)
	}
	if l, ok := a.Get(at(1, 2)); l != nil || ok {
		t.Errorf("Get of a wrong ref = %v, %v", l, ok)
	}
}

func TestAPointerIsToldAsItWas(t *testing.T) {
	n := &api.Node{Version: 1}
	a := arena.New[*api.Node](1)
	takes(t, a, n, at(0, 1))
	n.Version = 2
	if got, ok := a.Get(at(0, 1)); got != n || !ok || got.Version != 2 {
		t.Errorf("Get = %v, %v", got, ok)
	}
}

func TestAStructIsKeptAsAValue(t *testing.T) {
	r := api.Record{Key: "k", Word: 8}
	a := arena.New[api.Record](1)
	takes(t, a, r, at(0, 1))
	r.Word = 16
	holds(t, a, at(0, 1), api.Record{Key: "k", Word: 8})
	got, _ := a.Get(at(0, 1))
	got.Word = 24
	holds(t, a, at(0, 1), api.Record{Key: "k", Word: 8})
}

func TestWhatLiveToldStaysAsItWas(t *testing.T) {
	a := arena.New[int](8)
	for slot := range 5 {
		takes(t, a, slot, at(slot, 1))
	}
	told := a.Live()
	was := slices.Clone(told)
	freed(t, a, at(1, 1))
	freed(t, a, at(3, 1))
	a.Live()
	takes(t, a, 0, at(3, 2))
	takes(t, a, 0, at(1, 2))
	takes(t, a, 0, at(5, 1))
	a.Set(at(0, 1), 9)
	lives(t, a, 2, at(0, 1), at(1, 2), at(2, 1), at(3, 2), at(4, 1), at(5, 1))
	if !slices.Equal(told, was) {
		t.Errorf("Live told %v, which became %v", was, told)
	}
}

func TestLiveTellsNewMemory(t *testing.T) {
	a, refs := filled(t, 5)
	freed(t, a, refs[2])
	lists := [][]api.Ref{a.Live(), a.Live(), a.Live()}
	if !sample.Apart(lists, at(7, 7), func(x, y api.Ref) bool { return x == y }) {
		t.Error("two lists that Live told share memory")
	}
	lives(t, a, 1, refs[0], refs[1], refs[3], refs[4])
	for _, slot := range []int{0, 1, 3, 4} {
		holds(t, a, refs[slot], 10*slot)
	}
	takes(t, a, 5, at(2, 2))
}

// heavy is large enough to be given back to the machine alone.
type heavy struct {
	room [64]int
	next *heavy
}

// handed has a slot of a hold what nothing else holds, and tells how to ask whether it is still there.
func handed(a *arena.Arena[*heavy], hand func(a *arena.Arena[*heavy], x *heavy)) weak.Pointer[heavy] {
	x := &heavy{next: &heavy{}}
	hand(a, x)
	return weak.Make(x)
}

func TestWhatWasGivenBackIsNotKept(t *testing.T) {
	a := arena.New[*heavy](2)
	first := handed(a, func(a *arena.Arena[*heavy], x *heavy) { a.Take(x) })
	second := handed(a, func(a *arena.Arena[*heavy], x *heavy) { a.Take(x) })
	third := handed(a, func(a *arena.Arena[*heavy], x *heavy) { a.Set(at(1, 1), x) })
	refused := handed(a, func(a *arena.Arena[*heavy], x *heavy) { a.Take(x); a.Set(at(0, 2), x) })
	runtime.GC()
	if first.Value() == nil || second.Value() != nil || third.Value() == nil || refused.Value() != nil {
		t.Error("what is held, or what was, is not what should be")
	}
	freed(t, a, at(0, 1))
	runtime.GC()
	if first.Value() != nil || third.Value() == nil {
		t.Error("what was given back is kept")
	}
	runtime.KeepAlive(a)
}
