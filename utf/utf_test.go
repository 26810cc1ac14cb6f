package utf_test

import (
	"slices"
	"strings"
	"testing"
	"unicode/utf8"

	"transom/api"
	"transom/utf"
)

// edge is a number at one of the borders that the chapter names, and the bytes it must have (none, if it is no character).
type edge struct {
	r     int
	bytes string
}

var edges = []edge{
	{0, "\x00"},
	{1, "\x01"},
	{97, "a"},
	{127, "\x7f"},
	{128, "\xc2\x80"},
	{228, "\xc3\xa4"},
	{2047, "\xdf\xbf"},
	{2048, "\xe0\xa0\x80"},
	{4095, "\xe0\xbf\xbf"},
	{4096, "\xe1\x80\x80"},
	{8364, "\xe2\x82\xac"},
	{55295, "\xed\x9f\xbf"},
	{55296, ""},
	{56319, ""},
	{56320, ""},
	{57343, ""},
	{57344, "\xee\x80\x80"},
	{65533, "\xef\xbf\xbd"},
	{65535, "\xef\xbf\xbf"},
	{65536, "\xf0\x90\x80\x80"},
	{262143, "\xf0\xbf\xbf\xbf"},
	{262144, "\xf1\x80\x80\x80"},
	{1048575, "\xf3\xbf\xbf\xbf"},
	{1048576, "\xf4\x80\x80\x80"},
	{1114111, "\xf4\x8f\xbf\xbf"},
	{1114112, ""},
	{1<<21 - 1, ""},
	{1 << 21, ""},
	{1 << 31, ""},
	{1 << 32, ""},
	{1<<32 + 97, ""},
	{1<<62 + 97, ""},
	{api.MaxInt, ""},
	{-1, ""},
	{-97, ""},
	{-128, ""},
	{-55297, ""},
	{-1114111, ""},
	{-1 << 32, ""},
	{-1<<32 + 97, ""},
	{api.MinInt, ""},
	{api.MinInt + 97, ""},
}

// isCharacter is promise 1.1's first sentence to the letter.
func isCharacter(r int) bool {
	return r >= 0 && r <= 1114111 && !(r >= 55296 && r <= 57343)
}

func TestWidthAtTheEdges(t *testing.T) {
	for _, e := range edges {
		if got := utf.Width(e.r); got != len(e.bytes) {
			t.Errorf("Width(%d) = %d, want %d", e.r, got, len(e.bytes))
		}
	}
}

func TestPutAtTheEdges(t *testing.T) {
	for _, e := range edges {
		want := api.OK
		if e.bytes == "" {
			want = api.ErrArg
		}
		got, err := utf.Put(e.r)
		if got != e.bytes || err != want {
			t.Errorf("Put(%d) = %q, %d, want %q, %d", e.r, got, err, e.bytes, want)
		}
	}
}

func TestNextAtTheEdges(t *testing.T) {
	for _, e := range edges {
		if e.bytes == "" {
			continue
		}
		wantNext(t, e.bytes, e.r, len(e.bytes), api.OK)
		for _, tail := range []string{"a", "\x00", "\x80", "\xff", "\xc3", e.bytes} {
			wantNext(t, e.bytes+tail, e.r, len(e.bytes), api.OK)
		}
		for n := range len(e.bytes) {
			wantNext(t, e.bytes[:n], 0, 0, api.ErrShort)
		}
	}
}

// TestAllCharacters: over all numbers near and among the characters, Width, Put and Next agree with the chapter's first sentence and with the library's UTF-8.
func TestAllCharacters(t *testing.T) {
	for r := -70000; r <= 1114111+70000; r++ {
		if !isCharacter(r) {
			got, err := utf.Put(r)
			if utf.Width(r) != 0 || got != "" || err != api.ErrArg {
				t.Fatalf("%d is no character: Width %d, Put %q, %d", r, utf.Width(r), got, err)
			}
			continue
		}
		want := string(rune(r))
		got, err := utf.Put(r)
		if utf.Width(r) != len(want) || got != want || err != api.OK {
			t.Fatalf("character %d: Width %d, Put %q, %d, want %q", r, utf.Width(r), got, err, want)
		}
		wantNext(t, want+"\x80", r, len(want), api.OK)
		for n := range len(want) {
			wantNext(t, want[:n], 0, 0, api.ErrShort)
		}
	}
}

func TestNextOfNoText(t *testing.T) {
	wantNext(t, "", 0, 0, api.ErrShort)
}

func TestNextEndsWithin(t *testing.T) {
	for _, s := range []string{
		"\xc2", "\xc3", "\xdf",
		"\xe0", "\xe0\xa0", "\xe0\xbf", "\xe1", "\xe1\x80", "\xe2\x82", "\xed", "\xed\x80", "\xed\x9f", "\xee\x80", "\xef", "\xef\xbf",
		"\xf0", "\xf0\x90", "\xf0\x90\x80", "\xf0\xbf\xbf", "\xf1\x80", "\xf3\xbf\xbf", "\xf4", "\xf4\x80", "\xf4\x8f", "\xf4\x8f\xbf",
	} {
		wantNext(t, s, 0, 0, api.ErrShort)
	}
}

func TestNextOfBytesThatBeginNone(t *testing.T) {
	for _, s := range []string{
		// never a first byte, with and without more behind it
		"\x80", "\xbf", "\x80\x80", "\xbfa", "\xf8", "\xf8\x88\x80\x80\x80", "\xfc", "\xfe", "\xff", "\xff\xff",
		// more bytes than the character needs: 192 and 193 from the first byte on, others from the second
		"\xc0", "\xc0\x80", "\xc1", "\xc1\xbf", "\xe0\x80", "\xe0\x80\x80", "\xe0\x9f", "\xe0\x9f\xbf", "\xf0\x80", "\xf0\x8f", "\xf0\x8f\xbf\xbf",
		// the numbers that are no characters
		"\xed\xa0", "\xed\xa0\x80", "\xed\xbf", "\xed\xbf\xbf", "\xf4\x90", "\xf4\x90\x80\x80", "\xf5", "\xf5\x80\x80\x80", "\xf7\xbf\xbf\xbf",
		// a further byte that is none
		"\xc3a", "\xc3\x00", "\xc3\x7f", "\xc3\xc0", "\xc3\xc3\xa4", "\xc3\xff", "\xe2a", "\xe2\x82a", "\xe2\x82\xc3", "\xe2a\xac", "\xf0\x90a", "\xf0\x90\x80a", "\xf0\x90\x80\xf0", "\xf0a\x80\x80",
	} {
		wantNext(t, s, 0, 0, api.ErrText)
	}
}

// TestNextOfShortTexts: every text of one or two bytes, and with one or two more at borders, is told as a search among all characters' bytes tells it.
func TestNextOfShortTexts(t *testing.T) {
	known := knownBeginnings()
	for a := range 256 {
		agree(t, known, string([]byte{byte(a)}))
		for b := range 256 {
			agree(t, known, string([]byte{byte(a), byte(b)}))
		}
	}
	borders := []byte{0, 0x7f, 0x80, 0x8f, 0x90, 0x9f, 0xa0, 0xbf, 0xc0, 0xc3, 0xe0, 0xf0, 0xff}
	for a := range 256 {
		for b := range 256 {
			for _, c := range borders {
				agree(t, known, string([]byte{byte(a), byte(b), c}))
				for _, d := range borders {
					agree(t, known, string([]byte{byte(a), byte(b), c, d}))
				}
			}
		}
	}
}

// knownBeginnings: all texts that some character's bytes begin with: the character at all of its bytes, -1 at fewer.
func knownBeginnings() map[string]int {
	known := map[string]int{}
	for r := range 1114112 {
		if !isCharacter(r) {
			continue
		}
		s := string(rune(r))
		for n := 1; n < len(s); n++ {
			known[s[:n]] = -1
		}
		known[s] = r
	}
	return known
}

func agree(t *testing.T, known map[string]int, s string) {
	for n := 1; n <= len(s); n++ {
		r, ok := known[s[:n]]
		if !ok {
			wantNext(t, s, 0, 0, api.ErrText)
			return
		}
		if r >= 0 {
			wantNext(t, s, r, n, api.OK)
			return
		}
	}
	wantNext(t, s, 0, 0, api.ErrShort)
}

// wantNext is called some millions of times, too many for t.Helper: its line names the text instead.
func wantNext(t *testing.T, s string, r, n int, e api.Errno) {
	gotR, gotN, gotE := utf.Next(s)
	if gotR != r || gotN != n || gotE != e {
		t.Fatalf("Next(%q) = %d, %d, %d, want %d, %d, %d", s, gotR, gotN, gotE, r, n, e)
	}
}

// text is a text, the characters that it begins with, and whether that is all of it.
type text struct {
	s     string
	runes []int
	whole bool
}

var texts = []text{
	{"", nil, true},
	{"a", []int{97}, true},
	{"\x00", []int{0}, true},
	{"\x00\x00", []int{0, 0}, true},
	{"ab", []int{97, 98}, true},
	{"a\xc3\xa4", []int{97, 228}, true},
	{"\xef\xbf\xbd", []int{65533}, true},
	{"\x7f\xc2\x80\xdf\xbf\xe0\xa0\x80\xed\x9f\xbf\xee\x80\x80\xef\xbf\xbf\xf0\x90\x80\x80\xf4\x8f\xbf\xbf", []int{127, 128, 2047, 2048, 55295, 57344, 65535, 65536, 1114111}, true},
	{"ab\xff", []int{97, 98}, false},
	{"\xff", nil, false},
	{"\xffab", nil, false},
	{"a\xffb", []int{97}, false},
	{"\xc3", nil, false},
	{"a\xc3", []int{97}, false},
	{"\xc3\xa4\xc3", []int{228}, false},
	{"a\xe2\x82", []int{97}, false},
	{"\xe2\x82a", nil, false},
	{"a\xf0\x90\x80", []int{97}, false},
	{"\xc3\xa4\xa4", []int{228}, false},
	{"a\xc0\x80b", []int{97}, false},
	{"a\xed\xa0\x80b", []int{97}, false},
	{"a\xf4\x90\x80\x80", []int{97}, false},
}

func TestRunesCountValid(t *testing.T) {
	for _, x := range texts {
		wantText(t, x)
	}
}

func wantText(t *testing.T, x text) {
	t.Helper()
	count := -1
	if x.whole {
		count = len(x.runes)
	}
	if got := utf.Runes(x.s); !slices.Equal(got, x.runes) {
		t.Errorf("Runes(%q) = %v, want %v", x.s, got, x.runes)
	}
	if got := utf.Count(x.s); got != count {
		t.Errorf("Count(%q) = %d, want %d", x.s, got, count)
	}
	if got := utf.Valid(x.s); got != x.whole {
		t.Errorf("Valid(%q) = %v, want %v", x.s, got, x.whole)
	}
}

// TestTextsOfAllCharacters: all characters behind one another, whole and cut short by one byte.
func TestTextsOfAllCharacters(t *testing.T) {
	var b strings.Builder
	var all []int
	for r := range 1114112 {
		if isCharacter(r) {
			b.WriteRune(rune(r))
			all = append(all, r)
		}
	}
	s := b.String()
	if got := utf.Count(s); got != len(all) || !utf.Valid(s) || !slices.Equal(utf.Runes(s), all) {
		t.Errorf("all characters: Count %d, Valid %v", got, utf.Valid(s))
	}
	cut := s[:len(s)-1]
	if got := utf.Count(cut); got != -1 || utf.Valid(cut) || !slices.Equal(utf.Runes(cut), all[:len(all)-1]) {
		t.Errorf("all characters, cut: Count %d, Valid %v", got, utf.Valid(cut))
	}
}

// TestTextsOfPieces: texts of up to three pieces, right and wrong ones, as Next told piece by piece makes of them.
func TestTextsOfPieces(t *testing.T) {
	pieces := []string{"", "a", "\x00", "\xc3\xa4", "\xe2\x82\xac", "\xf0\x90\x80\x80", "\xc3", "\xe2\x82", "\xf0\x90\x80", "\x80", "\xc0", "\xa4", "\xac", "\xff", "\xed\xa0\x80"}
	for _, a := range pieces {
		for _, b := range pieces {
			for _, c := range pieces {
				wantText(t, told(a+b+c))
			}
		}
	}
}

// told is what the library makes of s: its characters up to the first fault.
func told(s string) text {
	x := text{s: s, whole: utf8.ValidString(s)}
	for s != "" {
		r, n := utf8.DecodeRuneInString(s)
		if r == utf8.RuneError && n == 1 {
			return x
		}
		x.runes = append(x.runes, int(r))
		s = s[n:]
	}
	return x
}

func TestRunesIsNewMemory(t *testing.T) {
	first := utf.Runes("abc")
	first[0] = 0
	if got := utf.Runes("abc"); got[0] != 97 {
		t.Errorf("Runes tells what was written to its last answer: %v", got)
	}
}

func TestChapterExamples(t *testing.T) {
	if s, err := utf.Put(228); s != string([]byte{195, 164}) || err != api.OK {
		t.Errorf("Put(228) = %q, %d", s, err)
	}
	wantNext(t, string([]byte{195}), 0, 0, api.ErrShort)
	wantNext(t, string([]byte{192, 128}), 0, 0, api.ErrText)
}
