package arena_test

import (
	"math/rand"
	"slices"
	"testing"

	"transom/api"
	"transom/arena"
)

// plainSlot is a slot as the chapter's words say it: back is when it was given back last, 0 if never.
type plainSlot struct {
	holds, tag, back int
	taken            bool
}

// plain is an arena as the chapter's words say it, with all its slots.
type plain struct {
	slots []plainSlot
	now   int
}

func (p *plain) take(x int) (api.Ref, api.Errno) {
	best := -1
	for i, s := range p.slots {
		if !s.taken && (best < 0 || s.back > p.slots[best].back) {
			best = i
		}
	}
	if best < 0 {
		return api.Ref{}, api.ErrFull
	}
	p.slots[best].holds, p.slots[best].taken = x, true
	p.slots[best].tag++
	return at(best, p.slots[best].tag), api.OK
}

func (p *plain) right(r api.Ref) bool {
	return slices.Contains(p.live(), r)
}

func (p *plain) set(r api.Ref, x int) bool {
	if !p.right(r) {
		return false
	}
	p.slots[r.Slot].holds = x
	return true
}

func (p *plain) free(r api.Ref) bool {
	if !p.right(r) {
		return false
	}
	p.now++
	p.slots[r.Slot].taken, p.slots[r.Slot].back = false, p.now
	return true
}

func (p *plain) room() int {
	return len(p.slots) - len(p.live())
}

func (p *plain) live() []api.Ref {
	var refs []api.Ref
	for i, s := range p.slots {
		if s.taken {
			refs = append(refs, at(i, s.tag))
		}
	}
	return refs
}

// walk asks the same of an arena and of a plain one, at random: more often Take than Free while it goes up, less often while it goes down.
type walk struct {
	t      *testing.T
	d      *rand.Rand
	a      *arena.Arena[int]
	p      *plain
	refs   []api.Ref // all that Take told
	bygone []api.Ref // those that were given back
}

func (w *walk) take(x int) {
	r, err := w.a.Take(x)
	want, wantErr := w.p.take(x)
	if r != want || err != wantErr {
		w.t.Fatalf("Take = %v, %d, not %v, %d", r, err, want, wantErr)
	}
	if err == api.OK {
		if slices.Contains(w.refs, r) {
			w.t.Fatalf("Take told %v a second time", r)
		}
		w.refs = append(w.refs, r)
	}
}

// ref tells a right ref, one that was told, or any.
func (w *walk) ref() api.Ref {
	live := w.p.live()
	switch pick := w.d.Intn(4); {
	case pick < 2 && len(live) > 0:
		return live[w.d.Intn(len(live))]
	case pick < 3 && len(w.refs) > 0:
		return w.refs[w.d.Intn(len(w.refs))]
	}
	return at(w.d.Intn(len(w.p.slots)+2)-1, w.d.Intn(6)-1)
}

func (w *walk) free() {
	r := w.ref()
	got, want := w.a.Free(r), w.p.free(r)
	if got != want {
		w.t.Fatalf("Free(%v) = %v, not %v", r, got, want)
	}
	if got {
		w.bygone = append(w.bygone, r)
	}
}

func (w *walk) set(x int) {
	r := w.ref()
	if got, want := w.a.Set(r, x), w.p.set(r, x); got != want {
		w.t.Fatalf("Set(%v) = %v, not %v", r, got, want)
	}
}

// compare holds all that the arena tells against the plain one.
func (w *walk) compare() {
	lives(w.t, w.a, w.p.room(), w.p.live()...)
	for i, s := range w.p.slots {
		for tag := -1; tag <= s.tag+1; tag++ {
			if s.taken && tag == s.tag {
				holds(w.t, w.a, at(i, tag), s.holds)
			} else if x, ok := w.a.Get(at(i, tag)); x != 0 || ok {
				w.t.Fatalf("Get(%v) = %d, %v, not 0, false", at(i, tag), x, ok)
			}
		}
	}
}

// neverAgain holds all refs that were given back against 16.3.
func (w *walk) neverAgain() {
	for _, r := range w.bygone {
		wrong(w.t, w.a, r)
	}
}

func (w *walk) step(up bool) {
	x := 1 + w.d.Intn(1000)
	switch pick := w.d.Intn(10); {
	case pick < 2:
		w.set(x)
	case (pick < 7) == up:
		w.take(x)
	default:
		w.free()
	}
}

func TestAsTheChapterSays(t *testing.T) {
	d := rand.New(rand.NewSource(16))
	for _, most := range []int{0, 1, 2, 3, 5, 8, 13, 30} {
		for range 10 {
			w := &walk{t: t, d: d, a: arena.New[int](most), p: &plain{slots: make([]plainSlot, most)}}
			for i := range 200 {
				w.step(i/40%2 == 0)
				w.compare()
			}
			w.neverAgain()
			w.compare()
		}
	}
}

func TestARefThatWasGivenBackIsNeverRightAgain(t *testing.T) {
	const most, rounds = 4, 50
	a := arena.New[int](most)
	var bygone []api.Ref
	for round := 1; round <= rounds; round++ {
		var refs []api.Ref
		for range most {
			r, err := a.Take(round)
			if err != api.OK || r.Gen != round || slices.Contains(bygone, r) {
				t.Fatalf("Take = %v, %d in round %d", r, err, round)
			}
			refs = append(refs, r)
		}
		for _, r := range bygone {
			wrong(t, a, r)
		}
		for _, r := range refs {
			freed(t, a, r)
			wrong(t, a, r)
		}
		bygone = append(bygone, refs...)
	}
	for _, r := range bygone {
		wrong(t, a, r)
	}
	lives(t, a, most)
}
