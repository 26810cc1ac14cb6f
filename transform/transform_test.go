package transform_test

import (
	"slices"
	"testing"

	"transom/api"
	"transom/sample"
	"transom/transform"
)

// The words of package sample, in short.
var (
	col     = sample.Col
	open    = sample.Open
	with    = sample.With
	table   = sample.Table
	plain   = sample.Plain
	each    = sample.Each
	renamed = sample.Renamed
	changed = sample.Changed
	refused = sample.RefusedTables

	alikeRows = sample.RowsAlike

	null = sample.Null
	num  = sample.Int
	text = sample.Text

	creating  = sample.Creating
	adding    = sample.Adding
	dropping  = sample.Dropping
	retyping  = sample.Retyping
	splitting = sample.Splitting
	merging   = sample.Merging
)

// Numbers that are no Kind of a change.
var farOff = []int{api.MinInt, -256, -6, -1, 0, 7, 8, 255, 256, 257, 258, 262, 1 << 32, 1<<32 + 2, 1<<32 + 6, api.MaxInt}

// list tells its arguments as a list.
func list[T any](l ...T) []T {
	return l
}

// ints tells a table t of so many columns of numbers.
func ints(keys, count int) api.Table {
	return sample.Ints(keys, count)
}

// row tells a row of the numbers 10, 11 and so on: one that fits ints.
func row(count int) []api.Value {
	l := make([]api.Value, count)
	for i := range l {
		l[i] = num(10 + i)
	}
	return l
}

// at tells those of l at those places.
func at[T any](l []T, places ...int) []T {
	out := make([]T, len(places))
	for i, place := range places {
		out[i] = l[place]
	}
	return out
}

// put tells l with another value at that place.
func put(l []api.Value, place int, v api.Value) []api.Value {
	l = slices.Clone(l)
	l[place] = v
	return l
}

// alikeLists tells whether a and b are the same lists of rows.
func alikeLists(a, b [][][]api.Value) bool {
	return slices.EqualFunc(a, b, alikeRows)
}

// wantRow holds Row against the rows that row becomes, and Rows of it alone and of it three times against as many lists of them.
func wantRow(t *testing.T, of api.Table, c api.Change, row []api.Value, to ...[]api.Value) {
	t.Helper()
	if got, err := askRow(t, of, c, row); !alikeRows(got, to) || err != api.OK {
		t.Errorf("Row(%+v, %+v, %+v) = %+v, %d, not %+v", of, c, row, got, err, to)
	}
	var one, three [][][]api.Value
	for _, r := range to {
		one, three = append(one, list(r)), append(three, list(r, r, r))
	}
	wantRows(t, of, c, list(row), one...)
	wantRows(t, of, c, list(row, row, row), three...)
}

// wantNoRow holds Row against an error, and Rows of it alone, and twice, against its place and that error.
func wantNoRow(t *testing.T, of api.Table, c api.Change, row []api.Value, want api.Errno) {
	t.Helper()
	if got, err := askRow(t, of, c, row); err != want {
		t.Errorf("Row(%+v, %+v, %+v) = %+v, %d, not %d", of, c, row, got, err, want)
	}
	wantNoRows(t, of, c, list(row), 0, want)
	wantNoRows(t, of, c, list(row, row), 0, want)
}

// wantRows holds Rows against the rows of each target.
func wantRows(t *testing.T, of api.Table, c api.Change, l [][]api.Value, to ...[][]api.Value) {
	t.Helper()
	if got, place, err := askRows(t, of, c, l); !alikeLists(got, to) || place != 0 || err != api.OK {
		t.Errorf("Rows(%+v, %+v, %+v) = %+v, %d, %d, not %+v", of, c, l, got, place, err, to)
	}
}

// wantNoRows holds Rows against the place of a row and its error.
func wantNoRows(t *testing.T, of api.Table, c api.Change, l [][]api.Value, place int, want api.Errno) {
	t.Helper()
	if got, at, err := askRows(t, of, c, l); at != place || err != want {
		t.Errorf("Rows(%+v, %+v, %+v) = %+v, %d, %d, not %d, %d", of, c, l, got, at, err, place, want)
	}
}

// The chapter's example.
func TestExample(t *testing.T) {
	wantNoRow(t, plain(), retyping("t", "v", api.KindInt), list(num(1), text("x")), api.ErrText)
	wantRow(t, plain(), retyping("t", "v", api.KindInt), list(num(1), text("12")), list(num(1), num(12)))
}

// What is told twice is the same: nothing is kept.
func TestAgain(t *testing.T) {
	c := splitting("t", "a", "b", "c2")
	for range 3 {
		wantRow(t, ints(1, 3), c, row(3), list(num(10), num(12)), list(num(10), num(11)))
		wantNoRow(t, ints(1, 3), c, row(2), api.ErrType)
	}
	if l, err := transform.Row(ints(1, 3), c, row(3)); len(l) != 2 || err != api.OK {
		t.Errorf("Row = %+v, %d", l, err)
	}
}
