package arena_test

import (
	"testing"

	"transom/api"
	"transom/arena"
)

// wrong holds each of Get, Set and Free against what it tells of a ref that is not right.
func wrong(t *testing.T, a *arena.Arena[int], r api.Ref) {
	t.Helper()
	if x, ok := a.Get(r); x != 0 || ok {
		t.Errorf("Get(%v) = %d, %v, not 0, false", r, x, ok)
	}
	if a.Set(r, 99) {
		t.Errorf("Set(%v) = true", r)
	}
	if a.Free(r) {
		t.Errorf("Free(%v) = true", r)
	}
}

// used tells an arena of 6 slots of ints: 0 is taken for the first time, for 10, 1 for the third time, for 11, and 3 for the first time, for 13; 2 was given back once, and 4 and 5 were never taken.
func used(t *testing.T) *arena.Arena[int] {
	t.Helper()
	a := arena.New[int](6)
	for slot := range 4 {
		takes(t, a, 10+slot, at(slot, 1))
	}
	freed(t, a, at(1, 1))
	takes(t, a, 0, at(1, 2))
	freed(t, a, at(1, 2))
	takes(t, a, 11, at(1, 3))
	freed(t, a, at(2, 1))
	return a
}

// wrongRefs tells refs that are not right of used.
func wrongRefs() []api.Ref {
	refs := []api.Ref{
		at(1, 1), at(1, 2), // given back, and the slot was taken again since
		at(2, 1),           // given back, and the slot is free
		at(2, 2), at(2, 3), // what the slot's next refs will be
		at(4, 1), at(5, 1), // never taken
		at(0, 2), at(1, 4), at(3, 2), // a tag that is one too high
		{}, {Slot: 3}, // one too low
	}
	for _, tag := range []int{0, -1, -2, -3, 4, 5, 1 << 32, 1<<32 + 1, 1<<32 + 3, api.MinInt, api.MinInt + 1, api.MaxInt} {
		for slot := range 6 {
			refs = append(refs, at(slot, tag))
		}
	}
	for _, slot := range []int{-1, -2, -6, 6, 7, api.MaxSlots - 1, api.MaxSlots, 1 << 32, 1<<32 + 1, api.MinInt, api.MinInt + 1, api.MaxInt} {
		for tag := -1; tag <= 4; tag++ {
			refs = append(refs, at(slot, tag))
		}
	}
	return refs
}

// asUsed holds a against used: what it tells of each slot, and the refs of all Takes to come.
func asUsed(t *testing.T, a *arena.Arena[int]) {
	t.Helper()
	lives(t, a, 3, at(0, 1), at(1, 3), at(3, 1))
	holds(t, a, at(0, 1), 10)
	holds(t, a, at(1, 3), 11)
	holds(t, a, at(3, 1), 13)
	takes(t, a, 12, at(2, 2))
	takes(t, a, 14, at(4, 1))
	takes(t, a, 15, at(5, 1))
	full(t, a)
	lives(t, a, 0, at(0, 1), at(1, 3), at(2, 2), at(3, 1), at(4, 1), at(5, 1))
	for slot, tag := range []int{1, 3, 2, 1, 1, 1} {
		holds(t, a, at(slot, tag), 10+slot)
	}
}

func TestWrongRefsTellFalse(t *testing.T) {
	a := used(t)
	for _, r := range wrongRefs() {
		wrong(t, a, r)
	}
}

func TestWhatTellsFalseChangesNothing(t *testing.T) {
	asUsed(t, used(t))
	for _, r := range wrongRefs() {
		for _, call := range []func(a *arena.Arena[int]){
			func(a *arena.Arena[int]) { a.Get(r) },
			func(a *arena.Arena[int]) { a.Set(r, 99) },
			func(a *arena.Arena[int]) { a.Free(r) },
		} {
			a := used(t)
			call(a)
			call(a)
			asUsed(t, a)
		}
	}
}

func TestTakeOfAFullArenaChangesNothing(t *testing.T) {
	for _, most := range []int{0, 1, 2, 5} {
		a, refs := filled(t, most)
		full(t, a)
		lives(t, a, 0, refs...)
		for slot, r := range refs {
			holds(t, a, r, 10*slot)
			freed(t, a, r)
			takes(t, a, 1, at(slot, 2)) // neither tags nor slots went on
		}
		full(t, a)
	}
}

func TestFreeTwice(t *testing.T) {
	a, refs := filled(t, 3)
	freed(t, a, refs[1])
	wrong(t, a, refs[1])
	wrong(t, a, refs[1])
	lives(t, a, 1, refs[0], refs[2])
	takes(t, a, 5, at(1, 2))
	full(t, a) // the slot was there to be taken but once
	wrong(t, a, refs[1])
	holds(t, a, at(1, 2), 5)
}

func TestWrongSlotsAtTheEdges(t *testing.T) {
	for _, most := range mosts {
		a, _ := filled(t, most)
		for _, slot := range []int{-1, most, most + 1, api.MaxSlots} {
			wrong(t, a, at(slot, 1))
			wrong(t, a, at(slot, 0))
		}
		if most > 0 {
			holds(t, a, at(most-1, 1), 10*(most-1))
			holds(t, a, at(0, 1), 0)
		}
	}
}

func TestASlotThatWasNeverTaken(t *testing.T) {
	a := arena.New[int](3)
	for slot := range 3 {
		for _, tag := range []int{-1, 0, 1} {
			wrong(t, a, at(slot, tag))
		}
	}
	takes(t, a, 4, at(0, 1))
	wrong(t, a, at(1, 0))
	wrong(t, a, at(1, 1))
	lives(t, a, 2, at(0, 1))
}

func TestARefOfAnotherArena(t *testing.T) {
	a, b := arena.New[int](2), arena.New[int](2)
	takes(t, a, 1, at(0, 1))
	wrong(t, b, at(0, 1))
	takes(t, b, 2, at(0, 1))
	freed(t, b, at(0, 1))
	takes(t, b, 3, at(0, 2))
	wrong(t, a, at(0, 2))
	holds(t, a, at(0, 1), 1)
}

// idle holds a, which has no slots, against what each call tells of such a one.
func idle(t *testing.T, a *arena.Arena[int]) {
	t.Helper()
	full(t, a)
	for _, r := range append(wrongRefs(), at(0, 1), at(1, 3)) {
		wrong(t, a, r)
	}
	lives(t, a, 0)
	full(t, a)
}

func TestNil(t *testing.T) {
	idle(t, nil)
}

func TestArenasOfNoSlots(t *testing.T) {
	idle(t, arena.New[int](0))
	idle(t, arena.New[int](-1))
	idle(t, arena.New[int](api.MaxSlots+1))
	idle(t, &arena.Arena[int]{})
}
