package arena_test

import (
	"slices"
	"testing"

	"transom/api"
	"transom/arena"
)

// mosts holds how many slots an arena may have: the edges, and some between.
var mosts = []int{0, 1, 2, 3, 4, 7, 64, 100, api.MaxSlots - 1, api.MaxSlots}

// at tells a ref.
func at(slot, tag int) api.Ref {
	return api.Ref{Slot: slot, Gen: tag}
}

// takes has a slot of a hold x, and holds the ref against what it should be.
func takes[T any](t *testing.T, a *arena.Arena[T], x T, want api.Ref) {
	t.Helper()
	if r, err := a.Take(x); r != want || err != api.OK {
		t.Fatalf("Take(%v) = %v, %d, not %v, OK", x, r, err, want)
	}
}

// full holds a against one that has no free slot.
func full(t *testing.T, a *arena.Arena[int]) {
	t.Helper()
	for range 3 {
		if r, err := a.Take(-1); r != (api.Ref{}) || err != api.ErrFull {
			t.Fatalf("Take of a full arena = %v, %d, not the zero ref, ErrFull", r, err)
		}
	}
	if n := a.Room(); n != 0 {
		t.Fatalf("Room of a full arena = %d", n)
	}
}

// holds holds what a tells of r against what it should tell.
func holds[T comparable](t *testing.T, a *arena.Arena[T], r api.Ref, want T) {
	t.Helper()
	if x, ok := a.Get(r); x != want || !ok {
		t.Fatalf("Get(%v) = %v, %v, not %v, true", r, x, ok, want)
	}
}

// lives holds what a tells of all slots against what it should tell.
func lives[T any](t *testing.T, a *arena.Arena[T], room int, want ...api.Ref) {
	t.Helper()
	if n := a.Room(); n != room {
		t.Fatalf("Room() = %d, not %d", n, room)
	}
	if l := a.Live(); !slices.Equal(l, want) {
		t.Fatalf("Live() = %v, not %v", l, want)
	}
}

// freed gives back r.
func freed[T any](t *testing.T, a *arena.Arena[T], r api.Ref) {
	t.Helper()
	if !a.Free(r) {
		t.Fatalf("Free(%v) = false", r)
	}
}

// filled tells an arena whose slots are all taken for the first time, each for ten times its own number, and the refs.
func filled(t *testing.T, most int) (*arena.Arena[int], []api.Ref) {
	t.Helper()
	a := arena.New[int](most)
	var refs []api.Ref
	for slot := range most {
		takes(t, a, 10*slot, at(slot, 1))
		refs = append(refs, at(slot, 1))
	}
	return a, refs
}

func TestExamples(t *testing.T) {
	a := arena.New[int](2)
	takes(t, a, 5, at(0, 1))
	takes(t, a, 6, at(1, 1))
	freed(t, a, at(0, 1))
	takes(t, a, 7, at(0, 2))
}

func TestNewIsAllFree(t *testing.T) {
	for _, most := range mosts {
		lives(t, arena.New[int](most), most)
	}
}

func TestNewOfWhatCountsAsNone(t *testing.T) {
	for _, most := range []int{-1, -2, -api.MaxSlots, -1 << 32, api.MinInt, api.MaxSlots + 1, 2 * api.MaxSlots, 1 << 32, 1<<32 + 1, api.MaxInt} {
		a := arena.New[int](most)
		if a == nil {
			t.Fatalf("New(%d) is nil", most)
		}
		lives(t, a, 0)
		full(t, a)
		if a.Free(at(0, 1)) || a.Set(at(0, 1), 1) {
			t.Errorf("a slot of New(%d) is there", most)
		}
	}
}

func TestTakeGoesBySlotsUntilTheArenaIsFull(t *testing.T) {
	for _, most := range mosts {
		a, refs := filled(t, most)
		full(t, a)
		lives(t, a, 0, refs...)
		for slot, r := range refs {
			holds(t, a, r, 10*slot)
		}
	}
}

func TestTheLastGivenBackIsTakenFirst(t *testing.T) {
	for _, order := range [][]int{
		{0}, {3}, {6}, {0, 1}, {1, 0}, {6, 0, 3}, {3, 6, 0}, {0, 6, 3}, {2, 4, 5},
		{0, 1, 2, 3, 4, 5, 6}, {6, 5, 4, 3, 2, 1, 0}, {3, 0, 6, 1, 5, 2, 4},
	} {
		a, _ := filled(t, 7)
		for _, slot := range order {
			freed(t, a, at(slot, 1))
		}
		for i := len(order) - 1; i >= 0; i-- {
			takes(t, a, 1, at(order[i], 2))
		}
		full(t, a)
	}
}

func TestWhatWasGivenBackIsTakenAheadOfWhatWasNot(t *testing.T) {
	a := arena.New[int](6)
	for slot := range 4 {
		takes(t, a, slot, at(slot, 1))
	}
	freed(t, a, at(3, 1))
	freed(t, a, at(0, 1))
	freed(t, a, at(2, 1))
	takes(t, a, 0, at(2, 2))
	takes(t, a, 0, at(0, 2))
	takes(t, a, 0, at(3, 2))
	takes(t, a, 0, at(4, 1)) // none is left that was given back
	freed(t, a, at(0, 2))
	takes(t, a, 0, at(0, 3))
	takes(t, a, 0, at(5, 1))
	full(t, a)
}

func TestGivingBackBetweenTakes(t *testing.T) {
	a, _ := filled(t, 5)
	freed(t, a, at(1, 1))
	freed(t, a, at(4, 1))
	takes(t, a, 0, at(4, 2))
	freed(t, a, at(2, 1)) // behind slot 1, which still waits
	freed(t, a, at(4, 2)) // a second time: behind both
	takes(t, a, 0, at(4, 3))
	takes(t, a, 0, at(2, 2))
	takes(t, a, 0, at(1, 2))
	full(t, a)
}

func TestTheTagIsHowOftenTheSlotWasTaken(t *testing.T) {
	a := arena.New[int](3)
	for tag := 1; tag <= 20; tag++ {
		takes(t, a, tag, at(0, tag))
		holds(t, a, at(0, tag), tag)
		lives(t, a, 2, at(0, tag))
		freed(t, a, at(0, tag))
	}
	takes(t, a, 0, at(0, 21))
	takes(t, a, 0, at(1, 1)) // each slot has its own
	freed(t, a, at(1, 1))
	takes(t, a, 0, at(1, 2))
	takes(t, a, 0, at(2, 1))
	lives(t, a, 0, at(0, 21), at(1, 2), at(2, 1))
}

func TestSetAndWhatGetTells(t *testing.T) {
	a, refs := filled(t, 3)
	for _, x := range []int{-1, 0, api.MaxInt, api.MinInt, 7} {
		if !a.Set(refs[1], x) {
			t.Fatalf("Set(%v) = false", refs[1])
		}
		holds(t, a, refs[0], 0)
		holds(t, a, refs[1], x)
		holds(t, a, refs[2], 20)
		lives(t, a, 0, refs...)
	}
	freed(t, a, refs[1])
	takes(t, a, 8, at(1, 2))
	holds(t, a, at(1, 2), 8)
	if !a.Set(at(1, 2), 9) {
		t.Fatal("Set behind the second Take = false")
	}
	holds(t, a, at(1, 2), 9)
}

func TestRoomAndLiveBehindEachCall(t *testing.T) {
	a := arena.New[int](4)
	lives(t, a, 4)
	takes(t, a, 1, at(0, 1))
	lives(t, a, 3, at(0, 1))
	takes(t, a, 2, at(1, 1))
	takes(t, a, 3, at(2, 1))
	lives(t, a, 1, at(0, 1), at(1, 1), at(2, 1))
	a.Set(at(1, 1), 5)
	a.Get(at(1, 1))
	lives(t, a, 1, at(0, 1), at(1, 1), at(2, 1))
	freed(t, a, at(1, 1))
	lives(t, a, 2, at(0, 1), at(2, 1))
	freed(t, a, at(0, 1))
	lives(t, a, 3, at(2, 1))
	takes(t, a, 4, at(0, 2))
	lives(t, a, 2, at(0, 2), at(2, 1)) // by slots, not by when they were taken
	takes(t, a, 5, at(1, 2))
	lives(t, a, 1, at(0, 2), at(1, 2), at(2, 1))
	takes(t, a, 6, at(3, 1))
	lives(t, a, 0, at(0, 2), at(1, 2), at(2, 1), at(3, 1))
}

func TestAnArenaThatIsEmptyAgain(t *testing.T) {
	for _, most := range mosts {
		a, refs := filled(t, most)
		for _, r := range refs {
			freed(t, a, r)
		}
		lives(t, a, most)
		for slot := most - 1; slot >= 0; slot-- {
			takes(t, a, slot, at(slot, 2))
		}
		full(t, a)
		for slot := range most {
			freed(t, a, at(slot, 2))
		}
		lives(t, a, most)
	}
}

func TestArenasAreApart(t *testing.T) {
	a, b := arena.New[int](2), arena.New[int](2)
	takes(t, a, 1, at(0, 1))
	takes(t, a, 2, at(1, 1))
	freed(t, a, at(0, 1))
	lives(t, b, 2)
	takes(t, b, 3, at(0, 1))
	lives(t, a, 1, at(1, 1))
	holds(t, b, at(0, 1), 3)
}
