package pack_test

import (
	"encoding/binary"
	"math"
	"strings"
	"testing"

	"transom/api"
	"transom/pack"
)

// uints holds numbers with the bytes that promise 3.1 gives them, worked out by hand.
var uints = []struct {
	n     uint64
	bytes string
}{
	{0, "\x00"},
	{1, "\x01"},
	{127, "\x7f"},
	{128, "\x80\x01"},
	{129, "\x81\x01"},
	{255, "\xff\x01"},
	{256, "\x80\x02"},
	{300, "\xac\x02"},
	{1<<14 - 1, "\xff\x7f"},
	{1 << 14, "\x80\x80\x01"},
	{1<<21 - 1, "\xff\xff\x7f"},
	{1 << 21, "\x80\x80\x80\x01"},
	{1<<63 - 1, "\xff\xff\xff\xff\xff\xff\xff\xff\x7f"},
	{1 << 63, "\x80\x80\x80\x80\x80\x80\x80\x80\x80\x01"},
	{1<<64 - 1, "\xff\xff\xff\xff\xff\xff\xff\xff\xff\x01"},
}

// ints holds numbers with the Uint that Int writes for them.
var ints = []struct {
	n int
	u uint64
}{
	{0, 0},
	{-1, 1},
	{1, 2},
	{-2, 3},
	{2, 4},
	{63, 126},
	{-64, 127},
	{64, 128},
	{-65, 129},
	{math.MaxInt - 1, 1<<64 - 4},
	{math.MinInt + 1, 1<<64 - 3},
	{math.MaxInt, 1<<64 - 2},
	{math.MinInt, 1<<64 - 1},
}

// behinds are texts that may stand behind a number's or a text's own bytes.
var behinds = []string{"", "\x00", "\x01", "z", "\x80", "\xff\xff", "behind it", strings.Repeat("\xff", 20)}

// manyUints yields all powers of 2 with what is next to them, and some thousands of numbers of all sizes.
func manyUints(yield func(uint64) bool) {
	for shift := range 64 {
		for _, d := range []uint64{0, 1, 2, ^uint64(0), ^uint64(1)} {
			if !yield(1<<shift + d) {
				return
			}
		}
	}
	n := uint64(1)
	for i := range 5000 {
		n = n*6364136223846793005 + 1442695040888963407
		if !yield(n >> (i % 64)) {
			return
		}
	}
}

func wantUint(t *testing.T, s string, n uint64, rest string, err api.Errno) {
	t.Helper()
	gotN, gotRest, gotErr := pack.ReadUint(s)
	if gotN != n || gotRest != rest || gotErr != err {
		t.Errorf("ReadUint(%q) = %d, %q, %d; want %d, %q, %d", s, gotN, gotRest, gotErr, n, rest, err)
	}
}

func wantInt(t *testing.T, s string, n int, rest string, err api.Errno) {
	t.Helper()
	gotN, gotRest, gotErr := pack.ReadInt(s)
	if gotN != n || gotRest != rest || gotErr != err {
		t.Errorf("ReadInt(%q) = %d, %q, %d; want %d, %q, %d", s, gotN, gotRest, gotErr, n, rest, err)
	}
}

func wantText(t *testing.T, s, text, rest string, err api.Errno) {
	t.Helper()
	gotText, gotRest, gotErr := pack.ReadText(s)
	if gotText != text || gotRest != rest || gotErr != err {
		t.Errorf("ReadText(%q) = %q, %q, %d; want %q, %q, %d", s, gotText, gotRest, gotErr, text, rest, err)
	}
}

// TestExamples: the chapter's examples.
func TestExamples(t *testing.T) {
	if got := pack.Uint(300); got != "\xac\x02" {
		t.Errorf("Uint(300) = %q", got)
	}
	if got := pack.Int(-2); got != "\x03" {
		t.Errorf("Int(-2) = %q", got)
	}
	wantUint(t, "\x80\x00", 0, "", api.ErrForm)
}

// Promise 3.1: Uint.
func TestUint(t *testing.T) {
	for _, c := range uints {
		if got := pack.Uint(c.n); got != c.bytes {
			t.Errorf("Uint(%d) = %q, want %q", c.n, got, c.bytes)
		}
	}
	for n := range manyUints {
		if got, want := pack.Uint(n), string(binary.AppendUvarint(nil, n)); got != want {
			t.Errorf("Uint(%d) = %q, want %q", n, got, want)
		}
	}
}

// Promise 3.1: ReadUint of what is written, with all kinds of bytes behind it.
func TestReadUint(t *testing.T) {
	for _, c := range uints {
		for _, behind := range behinds {
			wantUint(t, c.bytes+behind, c.n, behind, api.OK)
		}
	}
}

// Promise 3.1: ErrShort, wherever a number's bytes stop ahead of its last one.
func TestReadUintShort(t *testing.T) {
	wantUint(t, "", 0, "", api.ErrShort)
	for _, c := range uints {
		for size := range len(c.bytes) {
			wantUint(t, c.bytes[:size], 0, "", api.ErrShort)
		}
	}
	for size := 1; size <= 9; size++ {
		wantUint(t, strings.Repeat("\x80", size), 0, "", api.ErrShort)
		wantUint(t, strings.Repeat("\xff", size), 0, "", api.ErrShort)
	}
}

// Promise 3.1: ErrForm at a tenth byte above 1, whatever is behind it, and also where eleven bytes would make a number.
func TestReadUintTenth(t *testing.T) {
	for _, nine := range []string{strings.Repeat("\x80", 9), strings.Repeat("\xff", 9)} {
		for tenth := range 256 {
			s := nine + string([]byte{byte(tenth)})
			if tenth == 1 {
				continue
			}
			for _, behind := range behinds {
				wantUint(t, s+behind, 0, "", api.ErrForm)
			}
		}
	}
	wantUint(t, strings.Repeat("\x80", 10)+"\x01", 0, "", api.ErrForm)
	wantUint(t, strings.Repeat("\x80", 10), 0, "", api.ErrForm)
	wantUint(t, strings.Repeat("\x80", 1000), 0, "", api.ErrForm)
}

// Promise 3.1: ErrForm at a last byte that is 0 and not the first.
func TestReadUintZeroAtTheEnd(t *testing.T) {
	wantUint(t, "\x00", 0, "", api.OK)
	wantUint(t, "\x00\x00", 0, "\x00", api.OK)
	for size := 1; size <= 9; size++ {
		for _, digit := range []string{"\x80", "\x81", "\xff"} {
			for _, behind := range behinds {
				wantUint(t, strings.Repeat(digit, size)+"\x00"+behind, 0, "", api.ErrForm)
			}
		}
	}
}

// Promise 3.1: all texts of two bytes, each told by the promise's own words.
func TestReadUintTwoBytes(t *testing.T) {
	for first := range 256 {
		for second := range 256 {
			s := string([]byte{byte(first), byte(second)})
			switch {
			case first < 128:
				wantUint(t, s, uint64(first), s[1:], api.OK)
			case second >= 128:
				wantUint(t, s, 0, "", api.ErrShort)
			case second == 0:
				wantUint(t, s, 0, "", api.ErrForm)
			default:
				wantUint(t, s, uint64(first-128+128*second), "", api.OK)
			}
		}
	}
}

// Promise 3.1: Int and ReadInt.
func TestInt(t *testing.T) {
	for _, c := range ints {
		s := pack.Uint(c.u)
		if got := pack.Int(c.n); got != s {
			t.Errorf("Int(%d) = %q, want %q", c.n, got, s)
		}
		for _, behind := range behinds {
			wantInt(t, s+behind, c.n, behind, api.OK)
		}
	}
	for u := range manyUints {
		n := int(u)
		if got, want := pack.Int(n), string(binary.AppendVarint(nil, int64(n))); got != want {
			t.Errorf("Int(%d) = %q, want %q", n, got, want)
		}
	}
}

// Promise 3.1: ReadInt's errors are ReadUint's.
func TestReadIntWrong(t *testing.T) {
	wantInt(t, "", 0, "", api.ErrShort)
	wantInt(t, "\x80", 0, "", api.ErrShort)
	wantInt(t, "\x80\x00", 0, "", api.ErrForm)
	wantInt(t, "\x81\x00z", 0, "", api.ErrForm)
	wantInt(t, strings.Repeat("\xff", 9)+"\x02", 0, "", api.ErrForm)
	wantInt(t, strings.Repeat("\xff", 10)+"\x01", 0, "", api.ErrForm)
	for _, c := range ints {
		s := pack.Int(c.n)
		for size := range len(s) {
			wantInt(t, s[:size], 0, "", api.ErrShort)
		}
	}
}

// texts are those of all sizes at which the bytes of the size change.
func texts() []string {
	out := []string{"", "a", "\x00", "\xff", "ab", "\x80\x00", "\xe4\xb8"}
	for _, size := range []int{126, 127, 128, 129, 1<<14 - 1, 1 << 14, 1 << 21} {
		out = append(out, strings.Repeat("x", size))
	}
	return out
}

// Promise 3.1: Text and ReadText.
func TestText(t *testing.T) {
	for _, s := range texts() {
		written := string(binary.AppendUvarint(nil, uint64(len(s)))) + s
		if got := pack.Text(s); got != written {
			t.Errorf("Text of %d bytes begins with %q", len(s), got[:min(len(got), 8)])
		}
		for _, behind := range behinds {
			wantText(t, written+behind, s, behind, api.OK)
		}
	}
	if got := pack.Text(""); got != "\x00" {
		t.Errorf("Text of nothing = %q", got)
	}
	if got := pack.Text("ab"); got != "\x02ab" {
		t.Errorf("Text(ab) = %q", got)
	}
}

// Promise 3.1: ErrShort, where fewer bytes are there than the number says.
func TestReadTextShort(t *testing.T) {
	wantText(t, "\x01", "", "", api.ErrShort)
	wantText(t, "\x03ab", "", "", api.ErrShort)
	wantText(t, "\x7f"+strings.Repeat("x", 126), "", "", api.ErrShort)
	wantText(t, "\x80\x01"+strings.Repeat("x", 127), "", "", api.ErrShort)
	for _, size := range []uint64{1 << 31, 1 << 32, 1<<32 + 1, 1<<63 - 1, 1 << 63, 1<<63 + 1, 1<<64 - 1} {
		for _, behind := range behinds {
			wantText(t, pack.Uint(size)+behind, "", "", api.ErrShort)
		}
	}
}

// Promise 3.1: ReadText has ReadUint's error, ahead of its own.
func TestReadTextWrongNumber(t *testing.T) {
	wantText(t, "", "", "", api.ErrShort)
	wantText(t, "\x80", "", "", api.ErrShort)
	wantText(t, "\x80\x00", "", "", api.ErrForm)
	wantText(t, "\x81\x00ab", "", "", api.ErrForm)
	wantText(t, strings.Repeat("\xff", 9)+"\x02ab", "", "", api.ErrForm)
	wantText(t, strings.Repeat("\x80", 10)+"\x01ab", "", "", api.ErrForm)
}

// Promise 3.2: what is written is read as what it was.
func TestWrittenIsRead(t *testing.T) {
	for n := range manyUints {
		for _, behind := range behinds {
			wantUint(t, pack.Uint(n)+behind, n, behind, api.OK)
			wantInt(t, pack.Int(int(n))+behind, int(n), behind, api.OK)
		}
	}
	for _, s := range texts() {
		for _, other := range texts() {
			wantText(t, pack.Text(s)+pack.Text(other), s, pack.Text(other), api.OK)
		}
	}
}

// oneWay: what is read of s, written again with what was behind it, is s.
func oneWay(t *testing.T, s string) {
	t.Helper()
	if n, rest, err := pack.ReadUint(s); err == api.OK && pack.Uint(n)+rest != s {
		t.Errorf("ReadUint(%q) = %d, which is written as %q", s, n, pack.Uint(n))
	}
	if n, rest, err := pack.ReadInt(s); err == api.OK && pack.Int(n)+rest != s {
		t.Errorf("ReadInt(%q) = %d, which is written as %q", s, n, pack.Int(n))
	}
	if text, rest, err := pack.ReadText(s); err == api.OK && pack.Text(text)+rest != s {
		t.Errorf("ReadText(%q) = %q, which is written as %q", s, text, pack.Text(text))
	}
}

// Promise 3.2: in one way alone. All texts of two bytes, and all of up to eleven bytes that are made of a few digits and an end.
func TestOneWayAlone(t *testing.T) {
	for first := range 256 {
		for second := range 256 {
			oneWay(t, string([]byte{byte(first), byte(second)}))
		}
	}
	begins := []string{""}
	for size := 1; size <= 11; size++ {
		var longer []string
		for _, begin := range begins {
			for _, end := range []string{"\x00", "\x01", "\x02", "\x7f"} {
				oneWay(t, begin+end)
				oneWay(t, begin+end+"z")
			}
			longer = append(longer, begin+"\x80", begin+"\x81", begin+"\xff")
		}
		begins = longer
	}
}

// FuzzOneWay: the same of any bytes.
func FuzzOneWay(f *testing.F) {
	for _, c := range uints {
		f.Add(c.bytes + "z")
	}
	f.Fuzz(func(t *testing.T, s string) { oneWay(t, s) })
}
