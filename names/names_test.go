package names_test

import (
	"regexp"
	"slices"
	"strconv"
	"strings"
	"testing"

	"transom/api"
	"transom/names"
)

// list tells its arguments as a list.
func list(l ...string) []string {
	return l
}

// good holds names.
var good = []string{
	"a_1", // the chapter's example
	"a", "z", "m", "t", "ab", "az", "za", "zz", "table", "a0", "a9", "a_", "a__", "z_9", "a_b_c", "x1y2", "a0123456789",
	"abcdefghijklmno", "abcdefghijklmnop", // 15 and 16 bytes
	"a23456789012345", "a234567890123456",
	"a______________", "a_______________",
	"z00000000000000z", "zzzzzzzzzzzzzzzz",
}

// bad holds texts that are no names.
var bad = []string{
	"1a", // the chapter's example
	"",
	"A", "Z", "Ab", "aB", "aZ", "abC", "ABC",
	"0", "9", "0a", "9a", "_", "_a", "__", "_1",
	" ", " a", "a ", "a b", "\t", "a\n", "\na", "a\r",
	"\x00", "\x00a", "a\x00", "a\x00b",
	"a-b", "a.b", "a/", "a:", "a`", "`a", "a{", "{a", "a@", "a[", "a^", "a,b", "a\"",
	"\x80", "a\x80", "\xe1", "a\xe1", "\xff", "a\xff", "a\xff\xff",
	"\xc3\xa4", "a\xc3\xa4", "\xce\xb1", "a\xd9\xa3", "\xef\xbd\x81", // letters and a digit of other alphabets
	"abcdefghijklmnopq", "a2345678901234567", "a________________", // 17 bytes
	"Abcdefghijklmnop", "abcdefghijklmnoP", "abcdefghijklmno ", "abcdefghijklmn\xc3\xa4",
	strings.Repeat("a", 32), strings.Repeat("a", 256), strings.Repeat("a", 257), strings.Repeat("a", 272), strings.Repeat("a", 65537),
}

func TestCheckOfNames(t *testing.T) {
	for _, s := range good {
		if err := names.Check(s); err != api.OK {
			t.Errorf("Check(%q) = %d", s, err)
		}
	}
}

func TestCheckOfTextsThatAreNoNames(t *testing.T) {
	for _, s := range bad {
		if err := names.Check(s); err != api.ErrName {
			t.Errorf("Check(%q) = %d, not ErrName", s, err)
		}
	}
}

// pattern says what a name is in the library's own words.
var pattern = regexp.MustCompile(`\A[a-z][a-z0-9_]{0,15}\z`)

// wantCheck holds Check of s against pattern.
func wantCheck(t *testing.T, s string) {
	t.Helper()
	want := api.ErrName
	if pattern.MatchString(s) {
		want = api.OK
	}
	if err := names.Check(s); err != want {
		t.Errorf("Check(%q) = %d, not %d", s, err, want)
	}
}

// Each byte at each place of texts of all sizes around the borders.
func TestCheckOfEachByteAtEachPlace(t *testing.T) {
	for _, rest := range []string{"a", "z", "0", "9", "_"} {
		for size := 1; size <= api.MaxName+2; size++ {
			for place := range size {
				for b := range 256 {
					text := []byte("a" + strings.Repeat(rest, size-1))
					text[place] = byte(b)
					wantCheck(t, string(text))
				}
			}
		}
	}
}

func TestCheckOfAllTextsOfTwoBytes(t *testing.T) {
	for a := range 256 {
		for b := range 256 {
			wantCheck(t, string([]byte{byte(a), byte(b)}))
		}
	}
}

func TestFind(t *testing.T) {
	for _, c := range []struct {
		l    []string
		s    string
		want int
	}{
		{nil, "y", -1},
		{list(), "y", -1},
		{nil, "", -1},
		{list(), "", -1},
		{list("y"), "y", 0},
		{list("x"), "y", -1},
		{list("x", "y"), "x", 0},
		{list("x", "y"), "y", 1},
		{list("x", "y", "y"), "y", 1},
		{list("y", "x", "y"), "y", 0},
		{list("y", "y", "y"), "y", 0},
		{list("a", "b", "c", "d", "e", "f", "g", "h"), "h", 7},
		{list("a", "b", "c", "d", "e", "f", "g", "h"), "i", -1},
		{list("ab", "a", "abc"), "a", 1},
		{list("ab", "abc"), "a", -1},
		{list("a", "b"), "ab", -1},
		{list("A", "a"), "a", 1},
		{list("a", "A"), "A", 1},
		{list("a", ""), "", 1},
		{list("a", "b"), "", -1},
		{list("a", "a\x00"), "a\x00", 1},
		{list("a\x00"), "a", -1},
		{list("\xff", "\xfe"), "\xfe", 1},
		{list("\xff"), "\xfe", -1},
		{list("1a", "no name"), "no name", 1},
	} {
		if got := names.Find(c.l, c.s); got != c.want {
			t.Errorf("Find(%q, %q) = %d, not %d", c.l, c.s, got, c.want)
		}
	}
}

func TestUnlike(t *testing.T) {
	for _, c := range []struct {
		l    []string
		want bool
	}{
		{nil, true},
		{list(), true},
		{list("x"), true},
		{list(""), true},
		{list("x", "y"), true},
		{list("x", "x"), false},
		{list("x", "x", "y"), false},
		{list("y", "x", "x"), false},
		{list("x", "y", "x"), false},
		{list("x", "y", "z"), true},
		{list("x", "x", "x"), false},
		{list("x", "y", "x", "y"), false},
		{list("a", "b", "c", "d", "e", "f", "g", "h"), true},
		{list("a", "b", "c", "d", "e", "f", "g", "a"), false},
		{list("a", "b", "c", "d", "e", "f", "g", "g"), false},
		{list("a", "ab", "abc", ""), true},
		{list("", "a", ""), false},
		{list("a", "A"), true},
		{list("A", "A"), false},
		{list("a", "a\x00", "a "), true},
		{list("\xff", "\xfe"), true},
		{list("\xff", "\xfe", "\xff"), false},
		{list("no name", "1a", "no name"), false},
	} {
		if got := names.Unlike(c.l); got != c.want {
			t.Errorf("Unlike(%q) = %t", c.l, got)
		}
	}
}

func TestWithout(t *testing.T) {
	for _, c := range []struct{ l, m, want []string }{
		{nil, nil, nil},
		{nil, list(), nil},
		{list(), nil, nil},
		{list(), list(), nil},
		{nil, list("a"), nil},
		{list(), list("a", "b"), nil},
		{list("a"), nil, list("a")},
		{list("b", "a"), list(), list("b", "a")},
		{list("a"), list("a"), nil},
		{list("a", "b"), list("b", "a"), nil},
		{list("a", "b"), list("c", "d"), list("a", "b")},
		{list("a", "b", "c"), list("b"), list("a", "c")},
		{list("c", "b", "a"), list("b"), list("c", "a")},
		{list("c", "b", "a"), list("a", "x", "c"), list("b")},
		{list("a", "b", "a"), list("a"), list("b")},
		{list("b", "a", "b"), list("a"), list("b", "b")},
		{list("b", "b", "b"), list("a"), list("b", "b", "b")},
		{list("b", "c", "b"), nil, list("b", "c", "b")},
		{list("a", "b"), list("a", "a", "a"), list("b")},
		{list("a", "a", "b", "b"), list("b", "b"), list("a", "a")},
		{list("a", "a"), list("a", "a"), nil},
		{list("ab", "a", "b"), list("a"), list("ab", "b")},
		{list("a", "b"), list("ab"), list("a", "b")},
		{list("", "a", ""), list(""), list("a")},
		{list("", "a"), list("a"), list("")},
		{list("A", "a"), list("a"), list("A")},
		{list("a\x00", "a"), list("a"), list("a\x00")},
		{list("\xff", "\xfe"), list("\xfe"), list("\xff")},
		{list("no name", "1a", "x"), list("1a"), list("no name", "x")},
	} {
		if got := names.Without(c.l, c.m); !slices.Equal(got, c.want) {
			t.Errorf("Without(%q, %q) = %q, not %q", c.l, c.m, got, c.want)
		}
	}
}

// lists tells all lists of up to so many of these texts.
func lists(size int, texts ...string) [][]string {
	all := [][]string{nil}
	for from := 0; size > 0; size-- {
		end := len(all)
		for _, l := range all[from:end] {
			for _, s := range texts {
				all = append(all, append(slices.Clone(l), s))
			}
		}
		from = end
	}
	return all
}

// small tells the lists on which the calls are held against what the chapter says in its plainest form.
func small() [][]string {
	return lists(4, "a", "aa", "B", "")
}

func TestFindOfAllSmallLists(t *testing.T) {
	for _, l := range small() {
		for _, s := range list("a", "aa", "B", "", "b") {
			got := names.Find(l, s)
			for place := range l {
				if l[place] == s && (got < 0 || got > place) {
					t.Errorf("Find(%q, %q) = %d, but it stands at %d", l, s, got, place)
				}
			}
			if got != -1 && (got < 0 || got >= len(l) || l[got] != s) {
				t.Errorf("Find(%q, %q) = %d, where it does not stand", l, s, got)
			}
		}
	}
}

func TestUnlikeOfAllSmallLists(t *testing.T) {
	for _, l := range small() {
		want := true
		for i := range l {
			for j := range i {
				want = want && l[i] != l[j]
			}
		}
		if got := names.Unlike(l); got != want {
			t.Errorf("Unlike(%q) = %t", l, got)
		}
	}
}

func TestWithoutOfAllSmallLists(t *testing.T) {
	for _, l := range small() {
		for _, m := range small() {
			want := slices.DeleteFunc(slices.Clone(l), func(s string) bool { return slices.Contains(m, s) })
			if got := names.Without(l, m); !slices.Equal(got, want) {
				t.Errorf("Without(%q, %q) = %q, not %q", l, m, got, want)
			}
		}
	}
}

// many tells so many texts of which no two are the same.
func many(count int) []string {
	l := make([]string, count)
	for i := range l {
		l[i] = "n" + strconv.Itoa(i)
	}
	return l
}

// Lists far longer than a table's: the calls take any, and are done with them soon.
func TestLongLists(t *testing.T) {
	const count = 1 << 17
	l := many(count)
	if got := names.Find(l, l[count-1]); got != count-1 {
		t.Errorf("Find of the last: %d", got)
	}
	if !names.Unlike(l) {
		t.Error("Unlike of a long list: false")
	}
	if names.Unlike(append(many(count), l[0])) {
		t.Error("Unlike of a long list whose last is its first: true")
	}
	if got := names.Without(l, l[1:count-1]); !slices.Equal(got, list(l[0], l[count-1])) {
		t.Errorf("Without all but the first and the last: %d", len(got))
	}
	if got := names.Without(l, list("x")); !slices.Equal(got, l) {
		t.Errorf("Without of a long list that has none of them: %d", len(got))
	}
}

// overwrite puts another text at each place of l, and behind it as far as its memory goes.
func overwrite(l []string) {
	l = l[:cap(l)]
	for i := range l {
		l[i] = "changed"
	}
}

// roomy tells a copy of l with memory behind it, that holds texts, too.
func roomy(l []string) []string {
	return append(slices.Clone(l), "behind", "behind")[:len(l)]
}

// whole tells a copy of l and of what is behind it in its memory.
func whole(l []string) []string {
	return slices.Clone(l[:cap(l)])
}

// No call changes what it is given, nor what is behind it in its memory.
func TestNothingIsChanged(t *testing.T) {
	for _, c := range small() {
		l, m := roomy(c), roomy(list("a", "x", "a"))
		wasL, wasM := whole(l), whole(m)
		names.Find(l, "a")
		names.Unlike(l)
		names.Without(l, m)
		names.Without(m, l)
		if !slices.Equal(whole(l), wasL) || !slices.Equal(whole(m), wasM) {
			t.Errorf("%q became %q, %q became %q", wasL, whole(l), wasM, whole(m))
		}
	}
}

// What Without tells may be written to, and so may its arguments behind it: neither is seen in the other.
func TestWithoutSharesNoMemory(t *testing.T) {
	for _, c := range small() {
		for _, bar := range [][]string{nil, list("a"), list("B", ""), list("x"), list("a", "aa", "B", "")} {
			l, m := roomy(c), roomy(bar)
			wasL, wasM := whole(l), whole(m)
			overwrite(names.Without(l, m))
			if !slices.Equal(whole(l), wasL) || !slices.Equal(whole(m), wasM) {
				t.Errorf("Without(%q, %q): an argument was written to with the answer", c, bar)
			}
			got := names.Without(l, m)
			was := slices.Clone(got)
			overwrite(l)
			overwrite(m)
			if !slices.Equal(got, was) {
				t.Errorf("Without(%q, %q) = %q became %q with its arguments", c, bar, was, got)
			}
		}
	}
}

// Both arguments may be pieces of one list.
func TestWithoutOfListsThatShareMemory(t *testing.T) {
	l := list("a", "b", "c", "a", "d")
	for _, c := range []struct{ l, m, want []string }{
		{l, l, nil},
		{l, l[1:3], list("a", "a", "d")},
		{l[1:3], l, nil},
		{l[:3], l[2:], list("b")},
		{l[2:], l[:3], list("d")},
	} {
		if got := names.Without(c.l, c.m); !slices.Equal(got, c.want) {
			t.Errorf("Without(%q, %q) = %q, not %q", c.l, c.m, got, c.want)
		}
	}
	if !slices.Equal(l, list("a", "b", "c", "a", "d")) {
		t.Errorf("the list became %q", l)
	}
}
