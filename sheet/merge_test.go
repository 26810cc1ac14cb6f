package sheet_test

import (
	"slices"
	"strings"
	"testing"

	"transom/api"
)

// mergeOf tells what promise 12.2 says of Merge: all lines, sorted; and whether no two have one Key.
func mergeOf(a, b api.Sheet) ([]api.Line, bool) {
	all := slices.Concat(a.Lines, b.Lines)
	slices.SortFunc(all, func(l, m api.Line) int { return strings.Compare(l.Key, m.Key) })
	for i := 1; i < len(all); i++ {
		if all[i-1].Key == all[i].Key {
			return nil, false
		}
	}
	return all, true
}

// wantBoth holds Merge of two sheets of those Keys against their lines by rising Keys, or against ErrCollide.
func wantBoth(t *testing.T, a, b []string) {
	t.Helper()
	s, u := named("the first", a...), named("the second", b...)
	if want, ok := mergeOf(s, u); ok {
		wantMerge(t, s, u, want)
	} else {
		wantNoMerge(t, s, u)
	}
}

func TestMerge(t *testing.T) {
	first, second := rowsOf(1, 3, 5), rowsOf(2, 4, 6, 7)
	s, u := sheetOf(plain(), first...), sheetOf(plain(), second...)
	none := api.Sheet{Table: plain()}
	wantMerge(t, none, none, nil)
	wantMerge(t, none, api.Sheet{Table: plain(), Lines: []api.Line{}}, nil)
	wantMerge(t, s, none, s.Lines)
	wantMerge(t, s, u, sheetOf(plain(), rowsOf(1, 2, 3, 4, 5, 6, 7)...).Lines)
	wantMerge(t, s, sheetOf(plain(), rowsOf(6, 7)...), sheetOf(plain(), rowsOf(1, 3, 5, 6, 7)...).Lines)
	wantMerge(t, s, sheetOf(plain(), rowsOf(2)...), sheetOf(plain(), rowsOf(1, 2, 3, 5)...).Lines)
	wantMerge(t, s, sheetOf(plain(), list(list(num(-9), null()), list(num(0), null()))...),
		sheetOf(plain(), append(list(list(num(-9), null()), list(num(0), null())), first...)...).Lines)
	for _, row := range append(first, list(num(1), null()), list(num(3), null()), list(num(5), text("x"))) {
		wantNoMerge(t, s, sheetOf(plain(), row))
	}
	wantNoMerge(t, s, s)
	wantNoMerge(t, s, sheetOf(plain(), rowsOf(1, 2)...))
	wantNoMerge(t, s, sheetOf(plain(), rowsOf(2, 3, 4)...))
	wantNoMerge(t, s, sheetOf(plain(), rowsOf(4, 5)...))
	wantNoMerge(t, s, sheetOf(plain(), rowsOf(0, 2, 4, 5, 6)...))
}

func TestMergeOfEachTwoChoices(t *testing.T) {
	all := choices(list("", "\x00", "a", "a\x00", "aa", "b"))
	for _, a := range all {
		for _, b := range all {
			wantBoth(t, a, b)
		}
	}
}

// Neither the tables nor the rows play a part: who asks for a merge has seen to them.
func TestMergeOfOtherTables(t *testing.T) {
	for _, no := range refused() {
		s, u := named("the first", "a", "c"), named("the second", "b")
		u.Table = no.Table
		want, _ := mergeOf(s, u)
		wantMerge(t, s, u, want)
		u.Lines[0].Key = "c"
		wantNoMerge(t, s, u)
	}
	s, u := sheetOf(plain(), rowsOf(1)...), sheetOf(tableOfInts(2), list(num(1), num(1), null()))
	wantMerge(t, s, u, append(slices.Clone(s.Lines), u.Lines...))
}

// Long sheets, one behind the other and to and fro, and with one Key in common at each place.
func TestMergeOfMany(t *testing.T) {
	var a, b, c []string
	for i := range 60 {
		key := string([]byte{byte(4 * i)})
		a = append(a, key)
		b = append(b, key+"\x01")
		c = append(c, "\xff"+key)
	}
	wantBoth(t, a, b)
	wantBoth(t, a, c)
	wantBoth(t, append(slices.Clone(a[:20]), c...), append(slices.Clone(b[10:30]), a[30:]...))
	for at := range a {
		wantBoth(t, a, put(b, at, a[at]))
	}
}
