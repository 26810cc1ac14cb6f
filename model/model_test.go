package model_test

import (
	"slices"
	"strconv"
	"testing"

	"transom/api"
	"transom/model"
	"transom/sample"
	"transom/schema"
)

// The words of package sample, in short.
var (
	col     = sample.Col
	open    = sample.Open
	with    = sample.With
	table   = sample.Table
	plain   = sample.Plain
	ints    = sample.Ints
	each    = sample.Each
	renamed = sample.Renamed
	refused = sample.Refused

	null = sample.Null
	num  = sample.Int
	text = sample.Text

	creating  = sample.Creating
	adding    = sample.Adding
	dropping  = sample.Dropping
	retyping  = sample.Retyping
	splitting = sample.Splitting
	merging   = sample.Merging

	getting   = sample.Getting
	scanning  = sample.Scanning
	inserting = sample.Inserting
	updating  = sample.Updating
	deleting  = sample.Deleting
	changing  = sample.Changing

	alike     = sample.SheetsAlike
	rowsAlike = sample.RowsAlike
)

// list tells its arguments as a list.
func list[T any](l ...T) []T {
	return l
}

// put tells l with another item at that place.
func put[T any](l []T, at int, item T) []T {
	l = slices.Clone(l)
	l[at] = item
	return l
}

// without tells l without the item at that place.
func without[T any](l []T, at int) []T {
	return slices.Delete(slices.Clone(l), at, at+1)
}

// between tells l with another item ahead of that place.
func between[T any](l []T, at int, item T) []T {
	return slices.Insert(slices.Clone(l), at, item)
}

// sizes hands on each number of Keys and of columns that a table may have.
func sizes(yield func(keys, count int) bool) {
	for count := 1; count <= api.MaxCols; count++ {
		for keys := 1; keys <= min(count, api.MaxKeys); keys++ {
			if !yield(keys, count) {
				return
			}
		}
	}
}

// sheetOf tells a sheet of those rows, in that order, each under its key. They must fit.
func sheetOf(of api.Table, rows ...[]api.Value) api.Sheet {
	s := api.Sheet{Table: of}
	for _, row := range rows {
		key, err := schema.Key(of, row)
		if err != api.OK {
			panic("a row of the test does not fit its table")
		}
		s.Lines = append(s.Lines, api.Line{Key: key, Row: row})
	}
	return s
}

// rowOf tells a row of plain that has that key, and it in words.
func rowOf(n int) []api.Value {
	return list(num(n), text("row of "+strconv.Itoa(n)))
}

// named tells a table of that name, like plain, and its rows of those keys.
func named(name string, keys ...int) api.Sheet {
	s := api.Sheet{Table: renamed(plain(), name)}
	for _, n := range keys {
		s.Lines = append(s.Lines, sheetOf(plain(), rowOf(n)).Lines...)
	}
	return s
}

// many tells so many tables like plain, t100, t101 and so on, of one row each, whose key is the name's number.
func many(count int) []api.Sheet {
	l := make([]api.Sheet, count)
	for i := range l {
		l[i] = named("t"+strconv.Itoa(100+i), 100+i)
	}
	return l
}

// around tells lists in which s, whose name must be m, stands alone, first, in the middle, last, and among as many as may be.
func around(s api.Sheet) [][]api.Sheet {
	a, b, x, z := named("a", 1, 2, 3), named("b"), named("x", 3, 4), named("z", 1, 2, 5)
	return list(list(s), list(s, x, z), list(a, s, x), list(a, b, s), append(list(a, s), many(14)...))
}

// replaced tells l with s in the place of the table of its name.
func replaced(l []api.Sheet, s api.Sheet) []api.Sheet {
	for at := range l {
		if l[at].Table.Name == s.Table.Name {
			return put(l, at, s)
		}
	}
	panic("a table of the test is not there")
}

// The chapter's example.
func TestExample(t *testing.T) {
	l := list(named("t"))
	one := inserting("t", rowOf(1)...)
	wantRun(t, l, list(one, one), list(named("t", 1)), list(api.Reply{}, api.Reply{Err: api.ErrDup}))
	wantDone(t, l, one, list(named("t", 1)))
	wantNot(t, list(named("t", 1)), one, api.ErrDup)
}

// What is asked twice is told twice: nothing is kept.
func TestAgain(t *testing.T) {
	l := list(named("m", 1, 3), named("t", 2))
	for range 3 {
		wantRows(t, l, getting("m", num(3)), rowOf(3))
		wantRows(t, l, scanning("t", nil, nil, 5), rowOf(2))
		wantDone(t, l, inserting("m", rowOf(2)...), list(named("m", 1, 2, 3), named("t", 2)))
		wantDone(t, l, deleting("m", num(1)), list(named("m", 3), named("t", 2)))
		wantDone(t, l, changing(merging("m", "t", "u")), list(named("u", 1, 2, 3)))
		wantNot(t, l, changing(creating(plain())), api.ErrTwice)
		wantBounds(t, plain(), list(num(1)), nil, "\x02\x80\x00\x00\x00\x00\x00\x00\x01", "")
		wantTables(t, l, renamed(plain(), "m"), plain())
		wantSame(t, l, l, true)
	}
}

// Where there are no tables all that is asked of one is refused, and one may be made.
func TestNoTables(t *testing.T) {
	for _, l := range list(nil, list[api.Sheet]()) {
		for _, o := range list(getting("t", num(1)), scanning("t", nil, nil, 1), inserting("t", rowOf(1)...), updating("t", rowOf(1)...), deleting("t", num(1)),
			getting(""), changing(dropping("t", "v")), changing(merging("t", "u", "v"))) {
			wantNot(t, l, o, api.ErrTable)
		}
		wantDone(t, l, changing(creating(plain())), list(named("t")))
		wantTables(t, l)
		wantRun(t, l, nil, nil, nil)
	}
}

// The zero Op is none, and the zero Sheet no table: it is there all the same.
func TestZeros(t *testing.T) {
	wantNot(t, list(named("t", 1)), api.Op{}, api.ErrArg)
	wantNot(t, nil, api.Op{}, api.ErrArg)
	wantTables(t, list(api.Sheet{}), api.Table{})
	wantSame(t, list(api.Sheet{}), list(api.Sheet{}), true)
	wantSame(t, list(api.Sheet{}), nil, false)
	wantNoBounds(t, api.Table{}, nil, nil, api.ErrName)
	if err := model.CheckOp(api.Op{}); err != api.ErrArg {
		t.Errorf("CheckOp of the zero Op = %d", err)
	}
}
