package sheet_test

import (
	"slices"
	"strconv"
	"testing"

	"transom/api"
	"transom/sample"
	"transom/schema"
	"transom/sheet"
)

// The words of package sample, in short.
var (
	col     = sample.Col
	open    = sample.Open
	table   = sample.Table
	plain   = sample.Plain
	each    = sample.Each
	ints    = sample.Ints
	refused = sample.RefusedTables

	rowsAlike = sample.RowsAlike
	alike     = sample.SheetAlike

	null = sample.Null
	num  = sample.Int
	text = sample.Text
)

// list tells its arguments as a list.
func list[T any](l ...T) []T {
	return l
}

// sizes hands on each number of Keys and of columns that a table may have.
func sizes(yield func(keys, count int) bool) {
	for count := 1; count <= api.MaxCols; count++ {
		for keys := 1; keys <= min(count, api.MaxKeys); keys++ {
			if !yield(keys, count) {
				return
			}
		}
	}
}

// put tells l with another item at that place.
func put[T any](l []T, at int, item T) []T {
	l = slices.Clone(l)
	l[at] = item
	return l
}

// without tells l without the item at that place.
func without[T any](l []T, at int) []T {
	return slices.Delete(slices.Clone(l), at, at+1)
}

// keyOf tells the bytes of row's key in of, which it must fit.
func keyOf(of api.Table, row []api.Value) string {
	key, err := schema.Key(of, row)
	if err != api.OK {
		panic("a row of the test does not fit its table")
	}
	return key
}

// sheetOf tells a sheet of those rows, in that order, each under its key. They must fit.
func sheetOf(of api.Table, rows ...[]api.Value) api.Sheet {
	s := api.Sheet{Table: of}
	for _, r := range rows {
		s.Lines = append(s.Lines, api.Line{Key: keyOf(of, r), Row: r})
	}
	return s
}

// keyed tells a sheet of lines of those Keys. Its rows are none of its table's, and their Keys not theirs: what goes by Keys alone asks for neither.
func keyed(keys ...string) api.Sheet {
	s := api.Sheet{Table: plain()}
	for i, key := range keys {
		s.Lines = append(s.Lines, api.Line{Key: key, Row: list(num(i), text(key), num(-i))[:i%4]})
	}
	return s
}

// named tells a sheet as keyed does, whose rows tell, too, what it is called.
func named(name string, keys ...string) api.Sheet {
	s := keyed(keys...)
	for i := range s.Lines {
		s.Lines[i].Row = append(s.Lines[i].Row, text(name))
	}
	return s
}

// tableOfInts tells a table t of a key of so many numbers, and of a text behind it that may be null.
func tableOfInts(keys int) api.Table {
	t := ints(keys, keys)
	t.Cols = append(t.Cols, open("said", api.KindText))
	return t
}

// rowsOf tells the rows of plain that have those keys, and each its key in words.
func rowsOf(keys ...int) [][]api.Value {
	out := make([][]api.Value, len(keys))
	for i, n := range keys {
		out[i] = list(num(n), text("row of "+strconv.Itoa(n)))
	}
	return out
}

// linesAlike tells whether a and b are the same lines, bit by bit.
func linesAlike(a, b []api.Line) bool {
	return slices.EqualFunc(a, b, sample.LineAlike)
}

// The chapter's example.
func TestExample(t *testing.T) {
	s := sheetOf(plain(), list(num(1), null()), list(num(3), null()))
	want := sheetOf(plain(), list(num(1), null()), list(num(2), null()), list(num(3), null()))
	wantPut(t, s, list(num(2), null()), want, true)
	wantPlace(t, want, keyOf(plain(), list(num(2), null())), 1, true)
}

// What is asked twice is told twice: nothing is kept.
func TestAgain(t *testing.T) {
	s, more := sheetOf(plain(), rowsOf(1, 3)...), sheetOf(plain(), rowsOf(1, 2, 3)...)
	two := keyOf(plain(), rowsOf(2)[0])
	for range 3 {
		wantCheck(t, s, api.OK)
		wantPlace(t, s, two, 1, false)
		wantPut(t, s, rowsOf(2)[0], more, true)
		wantDelete(t, more, two, s, true)
		wantDelete(t, s, two, s, false)
		wantRange(t, more, two, "", 9, rowsOf(2, 3))
		wantMerge(t, s, sheetOf(plain(), rowsOf(2)...), more.Lines)
		wantNoMerge(t, s, more)
	}
}

// The zero Sheet has no table and no lines.
func TestZeroSheet(t *testing.T) {
	wantCheck(t, api.Sheet{}, api.ErrName)
	for _, key := range list("", "\x00", "k") {
		wantPlace(t, api.Sheet{}, key, 0, false)
		wantDelete(t, api.Sheet{}, key, api.Sheet{}, false)
		wantRange(t, api.Sheet{}, key, key, 9, nil)
		wantRange(t, api.Sheet{}, key, "", 9, nil)
	}
	wantNoPut(t, api.Sheet{}, nil, api.ErrName)
	wantMerge(t, api.Sheet{}, api.Sheet{}, nil)
	wantMerge(t, api.Sheet{}, keyed("a", "b"), keyed("a", "b").Lines)
}

// Of lines that do not rise the calls answer something, and change nothing.
func TestLinesThatDoNotRise(t *testing.T) {
	row := rowsOf(2)[0]
	key := keyOf(plain(), row)
	keys := list("", "a", key, "\xff")
	for _, l := range lists(keys, 4) {
		s := keyed(l...)
		for _, key := range keys {
			askFind(t, s, key)
			askDelete(t, s, key)
			for _, hi := range keys {
				for _, most := range list(api.MinInt, 0, 1, 3, api.MaxInt) {
					askRange(t, s, key, hi, most)
				}
			}
		}
		askPut(t, s, row)
		askMerge(t, s, keyed("a", "b"))
		askMerge(t, keyed("b", "a", "", "a"), s)
	}
	if got, err := sheet.Merge(keyed("b", "a"), keyed("a", "b")); len(got) != 0 && err != api.OK {
		t.Errorf("Merge = %+v, %d", got, err)
	}
}

// lists tells all lists of so many items of l, each as often as it may be, and all shorter ones.
func lists[T any](l []T, most int) [][]T {
	all, last := [][]T{nil}, [][]T{nil}
	for range most {
		var next [][]T
		for _, short := range last {
			for _, item := range l {
				next = append(next, append(slices.Clone(short), item))
			}
		}
		all, last = append(all, next...), next
	}
	return all
}

// choices tells all lists that have some of l, in l's order.
func choices[T any](l []T) [][]T {
	all := [][]T{nil}
	for _, item := range l {
		for _, short := range all[:len(all):len(all)] {
			all = append(all, append(slices.Clone(short), item))
		}
	}
	return all
}
