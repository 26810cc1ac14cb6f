package tid_test

import (
	"testing"

	"transom/api"
	"transom/tid"
)

const (
	lastEpochOfAll = api.MaxEpoch - 1
	lastSeqOfAll   = api.MaxSeq - 1
)

// nextIs holds Next against what it should tell.
func nextIs(t *testing.T, epoch, lastEpoch, lastSeq, most, wantEpoch, wantSeq int, want api.Errno) {
	t.Helper()
	e, s, err := tid.Next(epoch, lastEpoch, lastSeq, most)
	if e != wantEpoch || s != wantSeq || err != want {
		t.Errorf("Next(%d, %d, %d, %d) = %d, %d, %d, not %d, %d, %d", epoch, lastEpoch, lastSeq, most, e, s, err, wantEpoch, wantSeq, want)
	}
}

func TestNextInTheSameEpoch(t *testing.T) {
	for _, epoch := range epochs {
		nextIs(t, epoch, epoch, 0, 1, epoch, 1, api.OK)
		nextIs(t, epoch, epoch, 0, lastSeqOfAll, epoch, 1, api.OK)
		nextIs(t, epoch, epoch, 1, 9, epoch, 2, api.OK)
		nextIs(t, epoch, epoch, 8, 9, epoch, 9, api.OK)
		nextIs(t, epoch, epoch, 9, 9, 0, 0, api.ErrEnd)
		nextIs(t, epoch, epoch, 10, 9, 0, 0, api.ErrEnd)
		nextIs(t, epoch, epoch, lastSeqOfAll, 9, 0, 0, api.ErrEnd)
		nextIs(t, epoch, epoch, lastSeqOfAll-1, lastSeqOfAll, epoch, lastSeqOfAll, api.OK)
		nextIs(t, epoch, epoch, lastSeqOfAll, lastSeqOfAll, 0, 0, api.ErrEnd)
		nextIs(t, epoch, epoch, lastSeqOfAll-1, lastSeqOfAll-1, 0, 0, api.ErrEnd)
	}
}

func TestNextInALaterEpoch(t *testing.T) {
	for i, last := range epochs {
		for _, epoch := range epochs[i+1:] {
			for _, lastSeq := range []int{0, 1, 8, 9, 10, lastSeqOfAll - 1, lastSeqOfAll} {
				nextIs(t, epoch, last, lastSeq, 1, epoch, 1, api.OK)
				nextIs(t, epoch, last, lastSeq, 9, epoch, 1, api.OK)
				nextIs(t, epoch, last, lastSeq, lastSeqOfAll, epoch, 1, api.OK)
			}
		}
	}
}

func TestNextOfMostZeroIsTheEnd(t *testing.T) {
	for _, lastSeq := range seqs {
		nextIs(t, 0, 0, lastSeq, 0, 0, 0, api.ErrEnd)
		nextIs(t, 5, 5, lastSeq, 0, 0, 0, api.ErrEnd)
		nextIs(t, 5, 4, lastSeq, 0, 0, 0, api.ErrEnd)
		nextIs(t, lastEpochOfAll, 0, lastSeq, 0, 0, 0, api.ErrEnd)
	}
}

func TestNextOfEachNumberAndMost(t *testing.T) {
	for _, lastSeq := range seqs {
		for _, most := range seqs {
			if lastSeq < most {
				nextIs(t, 7, 7, lastSeq, most, 7, lastSeq+1, api.OK)
			} else {
				nextIs(t, 7, 7, lastSeq, most, 0, 0, api.ErrEnd)
			}
			if most > 0 {
				nextIs(t, 7, 6, lastSeq, most, 7, 1, api.OK)
			}
		}
	}
}

func TestNextOfWhatIsNone(t *testing.T) {
	for _, n := range outside {
		nextIs(t, n, 4, 3, 9, 0, 0, api.ErrArg)
		nextIs(t, n, 0, 0, 1, 0, 0, api.ErrArg)
		nextIs(t, 5, n, 3, 9, 0, 0, api.ErrArg)
		nextIs(t, lastEpochOfAll, n, 3, 9, 0, 0, api.ErrArg)
		nextIs(t, 5, 4, n, 9, 0, 0, api.ErrArg)
		nextIs(t, 5, 5, n, 9, 0, 0, api.ErrArg)
		nextIs(t, 5, 4, 3, n, 0, 0, api.ErrArg)
		nextIs(t, 5, 5, 3, n, 0, 0, api.ErrArg)
		nextIs(t, n, n, 3, 9, 0, 0, api.ErrArg)
		nextIs(t, 5, 5, n, n, 0, 0, api.ErrArg)
		nextIs(t, n, n, n, n, 0, 0, api.ErrArg)
	}
}

func TestNextOfAnEpochBelowTheLast(t *testing.T) {
	for i, epoch := range epochs {
		for _, last := range epochs[i+1:] {
			nextIs(t, epoch, last, 3, 9, 0, 0, api.ErrArg)
		}
	}
}

func TestNextTellsErrArgAheadOfErrEnd(t *testing.T) {
	nextIs(t, 4, 5, 9, 9, 0, 0, api.ErrArg)
	nextIs(t, 4, 5, 0, 0, 0, 0, api.ErrArg)
	for _, n := range outside {
		nextIs(t, n, 4, 9, 9, 0, 0, api.ErrArg)
		nextIs(t, 5, n, 9, 9, 0, 0, api.ErrArg)
		nextIs(t, n, 4, 0, 0, 0, 0, api.ErrArg)
		nextIs(t, 5, n, 0, 0, 0, 0, api.ErrArg)
		nextIs(t, 5, 5, n, 0, 0, 0, api.ErrArg)
		nextIs(t, 5, 4, n, 0, 0, 0, api.ErrArg)
		nextIs(t, 5, 5, lastSeqOfAll, n, 0, 0, api.ErrArg)
	}
}

// TestWordsOfNextRise hands on what Next tells to Next, in epochs that stay and that go on, and holds each word against all ahead of it.
func TestWordsOfNextRise(t *testing.T) {
	for _, most := range []int{1, 2, 3, 9, lastSeqOfAll} {
		for _, pace := range []int{1, 2, 3, 7, 20} {
			var words []int
			epoch, lastEpoch, lastSeq := 0, 0, 0
			for i := range 60 {
				if i%pace == pace-1 {
					epoch += 1 + i%3
				}
				e, s, err := tid.Next(epoch, lastEpoch, lastSeq, most)
				if err == api.ErrEnd && lastSeq == most {
					epoch++
					e, s, err = tid.Next(epoch, lastEpoch, lastSeq, most)
				}
				if err != api.OK {
					t.Fatalf("Next(%d, %d, %d, %d): %d", epoch, lastEpoch, lastSeq, most, err)
				}
				words = append(words, risen(t, words, e, s))
				lastEpoch, lastSeq = e, s
			}
		}
	}
}

// risen tells the word of what Next told, which is behind all of words.
func risen(t *testing.T, words []int, epoch, seq int) int {
	t.Helper()
	w, err := tid.Make(epoch, seq)
	if err != api.OK {
		t.Fatalf("Make(%d, %d): %d", epoch, seq, err)
	}
	for i, v := range words {
		v = tid.With(v, i%2 == 0, i%3 == 0, i%5 == 0)
		if tid.Cmp(v, w) != -1 || tid.Cmp(w, v) != 1 {
			t.Errorf("the word %#x, told behind %#x, is not behind it", w, v)
		}
	}
	return w
}

// TestTheNextWordIsBehindTheLast asks it of Next alone, at the edges.
func TestTheNextWordIsBehindTheLast(t *testing.T) {
	told := 0
	for _, last := range epochs {
		for _, epoch := range epochs {
			for _, lastSeq := range seqs {
				e, s, err := tid.Next(epoch, last, lastSeq, lastSeqOfAll)
				if err == api.OK {
					risen(t, []int{word(last, lastSeq, 0)}, e, s)
					told++
				}
			}
		}
	}
	if told == 0 {
		t.Error("Next told nothing")
	}
}
