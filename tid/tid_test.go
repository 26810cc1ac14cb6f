package tid_test

import (
	"slices"
	"testing"

	"transom/api"
	"transom/tid"
)

// epochs and seqs hold numbers that may be an epoch, and a sequence number: rising, with the edges, and each bit alone.
var (
	epochs = numbers(api.MaxEpoch)
	seqs   = numbers(api.MaxSeq)
)

// numbers tells numbers from 0 on below limit, rising.
func numbers(limit int) []int {
	l := []int{0, 3, 5, 1000, 0x55555, 0xaaaaa, limit - 3, limit - 2, limit - 1}
	for n := 1; n < limit; n *= 2 {
		l = append(l, n, limit-1-n)
	}
	slices.Sort(l)
	return slices.Compact(l)
}

// outside holds numbers that are neither an epoch nor a sequence number; each limit is 1<<20.
var outside = []int{
	-1, -2, -1 << 20, -1<<20 - 1, -1 << 23, -1 << 31, -1 << 43, -1<<63 + 1, api.MinInt,
	1 << 20, 1<<20 + 1, 1<<21 - 1, 1 << 21, 1 << 23, 1<<31 - 1, 1 << 31, 1 << 32, 1<<32 + 1, 1 << 40, 1 << 43, 1 << 44, 1<<62 + 1, api.MaxInt - 1, api.MaxInt,
}

// three are what a word's lowest bits say.
type three struct{ locked, absent, dead bool }

// ways tells all ways of three bits: the one at n is told by n's bits.
func ways() []three {
	return []three{
		{}, {locked: true}, {absent: true}, {true, true, false},
		{dead: true}, {true, false, true}, {false, true, true}, {true, true, true},
	}
}

// word tells a word, by the chapter's places told as what each is worth.
func word(epoch, seq, bits int) int {
	return epoch*8388608 + seq*8 + bits
}

// beside tells numbers whose bits of a word are w's, with others above: w is the only one that is a word.
func beside(w int) []int {
	const above = 1 << 43
	return []int{w, w + above, w + 2*above, w + 1<<62, w + api.MaxInt/above*above, w - above, w - 2*above, w - 1<<62, w + api.MinInt, w - api.MaxInt/above*above}
}

// saysOf holds what is told of w against what it should be.
func saysOf(t *testing.T, w, epoch, seq int, bits three) {
	t.Helper()
	if got := tid.Epoch(w); got != epoch {
		t.Errorf("Epoch(%#x) = %d, not %d", w, got, epoch)
	}
	if got := tid.Seq(w); got != seq {
		t.Errorf("Seq(%#x) = %d, not %d", w, got, seq)
	}
	if got := (three{tid.Locked(w), tid.Absent(w), tid.Dead(w)}); got != bits {
		t.Errorf("Locked, Absent, Dead(%#x) = %v, not %v", w, got, bits)
	}
}

func TestExamples(t *testing.T) {
	if w, err := tid.Make(1, 2); w != 8388624 || err != api.OK {
		t.Errorf("Make(1, 2) = %d, %d", w, err)
	}
	if epoch, seq, err := tid.Next(5, 4, 9, 9); epoch != 5 || seq != 1 || err != api.OK {
		t.Errorf("Next(5, 4, 9, 9) = %d, %d, %d", epoch, seq, err)
	}
	if epoch, seq, err := tid.Next(5, 5, 9, 9); epoch != 0 || seq != 0 || err != api.ErrEnd {
		t.Errorf("Next(5, 5, 9, 9) = %d, %d, %d", epoch, seq, err)
	}
}

func TestMakeOfAll(t *testing.T) {
	for _, epoch := range epochs {
		for _, seq := range seqs {
			w, err := tid.Make(epoch, seq)
			if w != word(epoch, seq, 0) || err != api.OK {
				t.Errorf("Make(%d, %d) = %#x, %d", epoch, seq, w, err)
			}
			saysOf(t, w, epoch, seq, three{})
		}
	}
}

func TestMakeAtTheEdges(t *testing.T) {
	for _, c := range []struct{ epoch, seq, want int }{
		{0, 0, 0},
		{0, 1, 8},
		{1, 0, 1 << 23},
		{0, api.MaxSeq - 1, 1<<23 - 8},
		{api.MaxEpoch - 1, 0, 1<<43 - 1<<23},
		{api.MaxEpoch - 1, api.MaxSeq - 1, 1<<43 - 8},
	} {
		if w, err := tid.Make(c.epoch, c.seq); w != c.want || err != api.OK {
			t.Errorf("Make(%d, %d) = %#x, %d", c.epoch, c.seq, w, err)
		}
	}
}

func TestMakeOfWhatIsNone(t *testing.T) {
	refused := func(epoch, seq int) {
		if w, err := tid.Make(epoch, seq); w != 0 || err != api.ErrArg {
			t.Errorf("Make(%d, %d) = %#x, %d, not 0, ErrArg", epoch, seq, w, err)
		}
	}
	for _, n := range outside {
		for _, epoch := range epochs {
			refused(epoch, n)
		}
		for _, seq := range seqs {
			refused(n, seq)
		}
		for _, m := range outside {
			refused(n, m)
		}
	}
}

func TestWhatWordsSay(t *testing.T) {
	for _, epoch := range epochs {
		for _, seq := range seqs {
			for bits, say := range ways() {
				saysOf(t, word(epoch, seq, bits), epoch, seq, say)
			}
		}
	}
}

func TestBitsAboveAWordPlayNoPart(t *testing.T) {
	for _, epoch := range []int{0, 1, 0x55555, api.MaxEpoch - 1} {
		for _, seq := range []int{0, 1, 0xaaaaa, api.MaxSeq - 1} {
			for bits, say := range ways() {
				for _, w := range beside(word(epoch, seq, bits)) {
					saysOf(t, w, epoch, seq, say)
				}
			}
		}
	}
}

func TestNumbersThatAreNoWord(t *testing.T) {
	const mostEpoch, mostSeq = api.MaxEpoch - 1, api.MaxSeq - 1
	all := three{true, true, true}
	saysOf(t, api.MinInt, 0, 0, three{})
	saysOf(t, api.MinInt+1, 0, 0, three{locked: true})
	saysOf(t, api.MaxInt, mostEpoch, mostSeq, all)
	saysOf(t, api.MaxInt-1, mostEpoch, mostSeq, three{absent: true, dead: true})
	saysOf(t, -1, mostEpoch, mostSeq, all)
	saysOf(t, -2, mostEpoch, mostSeq, three{absent: true, dead: true})
	saysOf(t, -3, mostEpoch, mostSeq, three{locked: true, dead: true})
	saysOf(t, -8, mostEpoch, mostSeq, three{})
	saysOf(t, -9, mostEpoch, mostSeq-1, all)
	saysOf(t, -1<<23, mostEpoch, 0, three{})
	saysOf(t, -1<<23-1, mostEpoch-1, mostSeq, all)
	saysOf(t, -1<<43, 0, 0, three{})
	saysOf(t, 1<<43, 0, 0, three{})
	saysOf(t, 1<<43-1, mostEpoch, mostSeq, all)
}

func TestEachBitAlone(t *testing.T) {
	for place := range 64 {
		epoch, seq := 0, 0
		if place >= 3 && place < 23 {
			seq = 1 << (place - 3)
		}
		if place >= 23 && place < 43 {
			epoch = 1 << (place - 23)
		}
		say := three{place == 0, place == 1, place == 2}
		saysOf(t, 1<<place, epoch, seq, say)
		saysOf(t, ^(1 << place), api.MaxEpoch-1-epoch, api.MaxSeq-1-seq, three{!say.locked, !say.absent, !say.dead})
	}
}

// changed tells numbers of which With and Plain are asked: words, each bit alone and all but it, and the edges. The three lowest bits of each are 0.
func changed() []int {
	l := []int{0, 8388624, 0x5555555555555550, -0x5555555555555558, api.MinInt, api.MaxInt - 7, -8, 1 << 43, 1<<43 - 8, -1 << 43}
	for place := 3; place < 64; place++ {
		l = append(l, 1<<place, ^(1<<place)&^7)
	}
	for _, epoch := range epochs {
		for _, seq := range seqs {
			l = append(l, word(epoch, seq, 0))
		}
	}
	return l
}

func TestWithSetsTheThreeBitsAlone(t *testing.T) {
	for _, w := range changed() {
		for had := range ways() {
			for bits, say := range ways() {
				if got := tid.With(w+had, say.locked, say.absent, say.dead); got != w+bits {
					t.Errorf("With(%#x, %v) = %#x, not %#x", w+had, say, got, w+bits)
				}
			}
		}
	}
}

func TestPlainUnsetsTheLowestBitAlone(t *testing.T) {
	for _, w := range changed() {
		for had := range ways() {
			if got := tid.Plain(w + had); got != w+had/2*2 {
				t.Errorf("Plain(%#x) = %#x, not %#x", w+had, got, w+had/2*2)
			}
		}
	}
}

func TestWithAndPlainAtTheEdges(t *testing.T) {
	for _, c := range []struct{ got, want int }{
		{tid.With(-1, false, false, false), -8},
		{tid.With(-1, true, true, true), -1},
		{tid.With(api.MinInt, true, true, true), api.MinInt + 7},
		{tid.With(api.MaxInt, false, false, false), api.MaxInt - 7},
		{tid.With(api.MaxInt, true, false, true), api.MaxInt - 2},
		{tid.With(0, false, true, false), 2},
		{tid.Plain(-1), -2},
		{tid.Plain(api.MinInt), api.MinInt},
		{tid.Plain(api.MinInt + 1), api.MinInt},
		{tid.Plain(api.MaxInt), api.MaxInt - 1},
		{tid.Plain(1), 0},
		{tid.Plain(0), 0},
	} {
		if c.got != c.want {
			t.Errorf("%#x, not %#x", c.got, c.want)
		}
	}
}

// stand tells how two words stand to each other, each told by its epoch and its sequence number.
func stand(a, b [2]int) int {
	return slices.Compare(a[:], b[:])
}

func TestCmpIsByEpochThenSeq(t *testing.T) {
	var all [][2]int
	for _, epoch := range []int{0, 1, 2, 0x55555, 1 << 19, api.MaxEpoch - 2, api.MaxEpoch - 1} {
		for _, seq := range []int{0, 1, 2, 0xaaaaa, 1 << 19, api.MaxSeq - 2, api.MaxSeq - 1} {
			all = append(all, [2]int{epoch, seq})
		}
	}
	for _, a := range all {
		for _, b := range all {
			for had := range ways() {
				x, y := word(a[0], a[1], had), word(b[0], b[1], 7-had)
				if got := tid.Cmp(x, y); got != stand(a, b) {
					t.Errorf("Cmp(%#x, %#x) = %d, not %d", x, y, got, stand(a, b))
				}
			}
		}
	}
}

func TestCmpOfWordsThatDifferInThreeBitsAlone(t *testing.T) {
	for _, w := range changed() {
		for a := range ways() {
			for b := range ways() {
				if got := tid.Cmp(w+a, w+b); got != 0 {
					t.Errorf("Cmp(%#x, %#x) = %d, not 0", w+a, w+b, got)
				}
			}
		}
	}
}

func TestCmpAtTheEdges(t *testing.T) {
	for _, c := range []struct{ a, b, want int }{
		{word(1, 2, 0), word(2, 2, 0), -1},             // in the epoch alone
		{word(1, 2, 0), word(1, 3, 0), -1},             // in the number alone
		{word(1, 3, 0), word(2, 2, 0), -1},             // in both, against each other
		{word(1, 2, 0), word(2, 3, 0), -1},             // in both, alike
		{word(1, api.MaxSeq-1, 7), word(2, 0, 0), -1},  // side by side
		{word(1, 2, 7), word(1, 3, 0), -1},             // against the three bits
		{word(0, 0, 0), word(1<<20-1, 0, 0), -1},       // as far apart as may be
		{word(0, 1<<20-1, 0), word(1<<20-1, 0, 0), -1}, // the epoch is asked first
		{api.MinInt, 8, -1},                            // nothing below the bit of the sign
		{api.MinInt, 0, 0},
		{api.MinInt, api.MaxInt, -1},
		{-1, api.MaxInt, 0}, // all bits of a word
		{0, -1, -1},
		{-1 << 43, 0, 0},
		{-1<<43 + 8, 0, 1},
		{1 << 43, 0, 0},
		{1 << 43, 8, -1},
	} {
		if got := tid.Cmp(c.a, c.b); got != c.want {
			t.Errorf("Cmp(%#x, %#x) = %d, not %d", c.a, c.b, got, c.want)
		}
		if got := tid.Cmp(c.b, c.a); got != -c.want {
			t.Errorf("Cmp(%#x, %#x) = %d, not %d", c.b, c.a, got, -c.want)
		}
	}
}

func TestCmpOfBitsAboveAWord(t *testing.T) {
	for _, a := range beside(word(7, 9, 0)) {
		for _, b := range beside(word(7, 9, 5)) {
			if got := tid.Cmp(a, b); got != 0 {
				t.Errorf("Cmp(%#x, %#x) = %d, not 0", a, b, got)
			}
		}
		for _, b := range beside(word(7, 10, 0)) {
			if x, y := tid.Cmp(a, b), tid.Cmp(b, a); x != -1 || y != 1 {
				t.Errorf("Cmp(%#x, %#x) = %d, %d", a, b, x, y)
			}
		}
	}
}
