package sheet_test

import (
	"strings"
	"testing"

	"transom/api"
)

// rangeOf tells what promise 12.2 says of Range: line by line.
func rangeOf(s api.Sheet, lo, hi string, most int) [][]api.Value {
	var out [][]api.Value
	for _, line := range s.Lines {
		if line.Key >= lo && (hi == "" || line.Key < hi) && len(out) < most {
			out = append(out, line.Row)
		}
	}
	return out
}

func TestRange(t *testing.T) {
	s := keyed("b", "d", "f", "h")
	rows := func(from, to int) [][]api.Value {
		var out [][]api.Value
		for _, line := range s.Lines[from:to] {
			out = append(out, line.Row)
		}
		return out
	}
	for _, want := range []struct {
		lo, hi   string
		from, to int
	}{
		{"", "", 0, 4}, {"a", "", 0, 4}, {"b", "", 0, 4}, {"b\x00", "", 1, 4}, {"d", "", 1, 4}, {"e", "", 2, 4}, {"h", "", 3, 4}, {"h\x00", "", 4, 4}, {"\xff", "", 4, 4},
		{"", "a", 0, 0}, {"", "b", 0, 0}, {"", "b\x00", 0, 1}, {"", "d", 0, 1}, {"", "e", 0, 2}, {"", "h", 0, 3}, {"", "h\x00", 0, 4}, {"", "\xff", 0, 4},
		{"a", "z", 0, 4}, {"b", "h", 0, 3}, {"b", "b", 0, 0}, {"b", "d", 0, 1}, {"c", "e", 1, 2}, {"c", "c", 0, 0}, {"d", "f\x00", 1, 3}, {"d\x00", "e", 0, 0}, {"i", "z", 0, 0},
		{"d", "b", 0, 0}, {"z", "a", 0, 0}, {"h", "b", 0, 0}, {"f", "e", 0, 0}, {"e", "d", 0, 0}, {"i", "a", 0, 0}, {"h", "\x00", 0, 0},
	} {
		count := want.to - want.from
		for _, most := range list(count, count+1, count+100, api.MaxInt) {
			wantRange(t, s, want.lo, want.hi, most, rows(want.from, want.to))
		}
		for most := range count {
			wantRange(t, s, want.lo, want.hi, most, rows(want.from, want.from+most))
		}
		for _, most := range list(0, -1, -4, api.MinInt) {
			wantRange(t, s, want.lo, want.hi, most, nil)
		}
	}
	// Neither the table nor the rows play a part.
	for _, no := range refused() {
		s.Table = no.Table
		wantRange(t, s, "d", "h", 9, rows(1, 3))
	}
}

func TestRangeOfEachChoice(t *testing.T) {
	edgy := list("", "\x00", "a", "a\x00", "aa", "b", "\xff")
	for _, keys := range choices(edgy) {
		s := keyed(keys...)
		for _, lo := range append(edgy, "\x01", "a\x01", "\xff\x00") {
			for _, hi := range append(edgy, "\x01", "a\x01", "\xff\x00") {
				for _, most := range list(-1, 0, 1, 2, len(keys), len(keys)+1, api.MaxInt) {
					wantRange(t, s, lo, hi, most, rangeOf(s, lo, hi, most))
				}
			}
		}
	}
}

// Rows of a table, by the keys of its rows, and by the beginnings of these.
func TestRangeOfRows(t *testing.T) {
	of := tableOfInts(2)
	var s api.Sheet
	s.Table = of
	for a := range 4 {
		for b := range 3 {
			r := list(num(a), num(b), text(strings.Repeat("x", a*b)))
			s.Lines = append(s.Lines, api.Line{Key: keyOf(of, r), Row: r})
		}
	}
	begin := func(n int) string {
		return keyOf(ints(1, 1), list(num(n)))
	}
	for a := range 6 {
		for b := range 6 {
			wantRange(t, s, begin(a-1), begin(b-1), 64, rangeOf(s, begin(a-1), begin(b-1), 64))
		}
		wantRange(t, s, begin(a-1), "", 64, rangeOf(s, begin(a-1), "", 64))
	}
	if got := askRange(t, s, begin(1), begin(3), 64); len(got) != 6 || got[0][0] != num(1) || got[5][0] != num(2) || got[5][1] != num(2) {
		t.Errorf("Range = %+v", got)
	}
}

// More rows than a scan may ask for: Range has no limit of its own.
func TestRangeOfMany(t *testing.T) {
	var keys []string
	for i := range 200 {
		keys = append(keys, string([]byte{byte(i)}))
	}
	s := keyed(keys...)
	for _, most := range list(api.MaxScan-1, api.MaxScan, api.MaxScan+1, 199, 200, 201, api.MaxInt) {
		wantRange(t, s, "", "", most, rangeOf(s, "", "", most))
		wantRange(t, s, keys[100], "", most, rangeOf(s, keys[100], "", most))
		wantRange(t, s, "", keys[100], most, rangeOf(s, "", keys[100], most))
		wantRange(t, s, keys[10], keys[180], most, rangeOf(s, keys[10], keys[180], most))
	}
}
