package model_test

import (
	"slices"
	"strings"
	"testing"

	"transom/api"
	"transom/sample"
)

// keyed tells a row of so many numbers that has the key 5, 5 and n, as many of them as keys says, n last; behind it stand n + 1, n + 2 and so on.
func keyed(keys, count, n int) []api.Value {
	row := make([]api.Value, count)
	for i := range row {
		row[i] = num(n + i - keys + 1)
		if i < keys-1 {
			row[i] = num(5)
		}
	}
	return row
}

// other tells a row like keyed's where what is behind the key is of that value.
func other(keys, count, n int, v api.Value) []api.Value {
	row := keyed(keys, count, n)
	for i := keys; i < count; i++ {
		row[i] = v
	}
	return row
}

// rising tells keyed rows of n 1, 3, 5 and so on.
func rising(keys, count, rows int) [][]api.Value {
	l := make([][]api.Value, rows)
	for i := range l {
		l[i] = keyed(keys, count, 2*i+1)
	}
	return l
}

// missing tells keys that no row of rising has: all others around n from 0 to 2 * rows, and ones whose other parts are less, or more.
func missing(keys, count, rows int) [][]api.Value {
	var l [][]api.Value
	for i := range rows + 1 {
		l = append(l, keyed(keys, count, 2*i)[:keys])
	}
	for part := range keys - 1 {
		key := keyed(keys, count, 1)[:keys]
		l = append(l, put(key, part, num(4)), put(key, part, num(6)))
	}
	return append(l, put(keyed(keys, count, 1)[:keys], keys-1, num(api.MinInt)), put(keyed(keys, count, 1)[:keys], keys-1, num(api.MaxInt)))
}

// rowsAround hands on lists around a table m of so many keys, columns and rows: rising ones.
func rowsAround(yield func(l []api.Sheet, s api.Sheet) bool) {
	for keys, count := range sizes {
		of := renamed(ints(keys, count), "m")
		for rows := range 4 {
			s := sheetOf(of, rising(keys, count, rows)...)
			for _, l := range around(s) {
				if !yield(l, s) {
					return
				}
			}
		}
	}
}

func TestGet(t *testing.T) {
	for l, s := range rowsAround {
		keys, count := s.Table.Keys, len(s.Table.Cols)
		for _, line := range s.Lines {
			wantRows(t, l, getting("m", line.Row[:keys]...), line.Row)
		}
		for _, key := range missing(keys, count, len(s.Lines)) {
			wantRows(t, l, getting("m", key...))
		}
	}
}

func TestGetOfEachKind(t *testing.T) {
	for kind := api.KindBool; kind <= api.KindText; kind++ {
		s := api.Sheet{Table: table("m", 1, col("k", kind), open("v", api.KindInt))}
		for i, v := range sample.Some(kind) {
			s.Lines = append(s.Lines, sheetOf(s.Table, list(v, num(i))).Lines...)
		}
		slices.SortFunc(s.Lines, func(a, b api.Line) int { return strings.Compare(a.Key, b.Key) })
		for i, v := range sample.Some(kind) {
			wantRows(t, list(s), getting("m", v), list(v, num(i)))
		}
	}
}

func TestInsert(t *testing.T) {
	for l, s := range rowsAround {
		keys, count, rows := s.Table.Keys, len(s.Table.Cols), len(s.Lines)
		// Ahead of all, between, and behind all.
		for at := range rows + 1 {
			row := keyed(keys, count, 2*at)
			to := api.Sheet{Table: s.Table, Lines: between(s.Lines, at, sheetOf(s.Table, row).Lines[0])}
			wantDone(t, l, inserting("m", row...), replaced(l, to))
		}
		for at, line := range s.Lines {
			wantNot(t, l, inserting("m", line.Row...), api.ErrDup)
			wantNot(t, l, inserting("m", other(keys, count, 2*at+1, num(-1))...), api.ErrDup)
		}
	}
}

func TestUpdate(t *testing.T) {
	for l, s := range rowsAround {
		keys, count := s.Table.Keys, len(s.Table.Cols)
		for at, line := range s.Lines {
			wantDone(t, l, updating("m", line.Row...), l)
			row := other(keys, count, 2*at+1, num(-1))
			to := api.Sheet{Table: s.Table, Lines: put(s.Lines, at, sheetOf(s.Table, row).Lines[0])}
			wantDone(t, l, updating("m", row...), replaced(l, to))
		}
		for _, key := range missing(keys, count, len(s.Lines)) {
			row := append(slices.Clone(key), keyed(keys, count, 1)[keys:]...)
			wantNot(t, l, updating("m", row...), api.ErrNoRow)
		}
	}
}

func TestDelete(t *testing.T) {
	for l, s := range rowsAround {
		keys, count := s.Table.Keys, len(s.Table.Cols)
		for at, line := range s.Lines {
			to := api.Sheet{Table: s.Table, Lines: without(s.Lines, at)}
			wantDone(t, l, deleting("m", line.Row[:keys]...), replaced(l, to))
		}
		for _, key := range missing(keys, count, len(s.Lines)) {
			wantNot(t, l, deleting("m", key...), api.ErrNoRow)
		}
	}
}

// Values that may be null, and those of other kinds than numbers, are written as they are.
func TestWritesOfEachKind(t *testing.T) {
	of := renamed(each(), "m")
	first := list(sample.Bool(0), num(1), sample.Real(sample.Inf), sample.Bytes("\x00"), text("\xc3\xa4"))
	l := list(named("a", 1), sheetOf(of, first))
	second := list(sample.Bool(1), num(1), null(), null(), text(""))
	wantDone(t, l, inserting("m", second...), list(named("a", 1), sheetOf(of, first, second)))
	instead := list(sample.Bool(0), num(1), null(), sample.Bytes(""), text("\x00"))
	wantDone(t, l, updating("m", instead...), list(named("a", 1), sheetOf(of, instead)))
	wantDone(t, l, deleting("m", first[:2]...), list(named("a", 1), api.Sheet{Table: of}))
	wantRows(t, l, getting("m", first[:2]...), first)
	wantNot(t, l, inserting("m", instead...), api.ErrDup)
	wantNot(t, l, updating("m", second...), api.ErrNoRow)
	wantNot(t, l, deleting("m", second[:2]...), api.ErrNoRow)
}

// The names of tables that are not there: ahead of all, between, behind all, begun by one that is there, and none.
var strange = []string{"", "0", "B", "Z", "aa", "c", "m0", "mm", "n", "y", "zz", "\xff", "m\x00"}

func TestTablesThatAreNotThere(t *testing.T) {
	for _, l := range append(around(named("m", 1)), list(named("a"), named("m", 1), named("z"))) {
		for _, name := range strange {
			for _, row := range list(nil, list(num(1)), rowOf(1), list(text("\xff")), make([]api.Value, 9)) {
				for kind := api.OpGet; kind <= api.OpDelete; kind++ {
					wantNot(t, l, api.Op{Kind: kind, Table: name, Row: row, Lo: row, Hi: row, Max: 1}, api.ErrTable)
				}
			}
		}
	}
}

// What is no key is told ahead of whether there is a row, and what is no row of the table likewise.
func TestKeysThatMayNotBe(t *testing.T) {
	of := renamed(ints(2, 4), "m")
	l := list(named("a", 1), sheetOf(of, keyed(2, 4, 1), keyed(2, 4, 3)))
	wrong := append(noBegins(), noBegin{nil, api.ErrType}, noBegin{list(num(5)), api.ErrType}, noBegin{list(num(9)), api.ErrType},
		noBegin{keyed(2, 4, 1), api.ErrType}, noBegin{keyed(2, 4, 1)[:3], api.ErrType})
	for _, no := range refused() {
		// One value too few is told ahead of what it may not be.
		wrong = append(wrong, noBegin{list(num(5), no.Value), no.Err})
	}
	for _, no := range wrong {
		if len(no.l) == 1 {
			no.err = api.ErrType
		}
		wantNot(t, l, getting("m", no.l...), no.err)
		wantNot(t, l, deleting("m", no.l...), no.err)
	}
}

func TestRowsThatMayNotBe(t *testing.T) {
	of := table("m", 1, col("k", api.KindInt), open("v", api.KindText), col("w", api.KindBool))
	l := list(named("a", 1), sheetOf(of, list(num(1), null(), sample.Bool(1))), named("x"))
	wrong := list(
		noBegin{nil, api.ErrType},
		noBegin{list(num(1)), api.ErrType},
		noBegin{list(num(1), null()), api.ErrType},
		noBegin{list(num(1), null(), sample.Bool(1), null()), api.ErrType},
		noBegin{list(null(), null(), sample.Bool(1)), api.ErrType},
		noBegin{list(num(1), null(), null()), api.ErrType},
		noBegin{list(num(1), num(1), sample.Bool(1)), api.ErrType},
		noBegin{list(num(1), text("x"), num(1)), api.ErrType},
		noBegin{list(text("1"), text("x"), sample.Bool(1)), api.ErrType},
		noBegin{list(num(1), null(), sample.Bool(2)), api.ErrRange},
		noBegin{list(num(1), text("\xff"), sample.Bool(2)), api.ErrText}, // the first value's is told
		noBegin{list(num(1), text("\xff"), num(1)), api.ErrText},
		noBegin{list(null(), text("\xff"), num(1)), api.ErrType},
		noBegin{list(num(1), text("\xff")), api.ErrType}, // too few is told ahead of a value
	)
	for _, no := range refused() {
		wrong = append(wrong, noBegin{list(no.Value, null(), sample.Bool(1)), no.Err}, noBegin{list(num(1), no.Value, null()), no.Err}, noBegin{list(num(1), null(), no.Value), no.Err})
	}
	// Of a key that is there, and of one that is not: whether there is a row is asked behind it.
	for _, no := range wrong {
		for _, n := range list(1, 2) {
			row := slices.Clone(no.l)
			if len(row) > 0 && row[0] == num(1) {
				row[0] = num(n)
			}
			wantNot(t, l, inserting("m", row...), no.err)
			wantNot(t, l, updating("m", row...), no.err)
		}
	}
}

// What may not be asked is told ahead of all; then what is none of the tables' own.
func TestKindsThatMayNotBe(t *testing.T) {
	for _, l := range append(around(named("m", 1)), nil) {
		for _, name := range append(strange, "m") {
			for _, kind := range farOff {
				wantNot(t, l, api.Op{Kind: kind, Table: name, Row: list(num(1)), Max: 1}, api.ErrArg)
			}
			for _, kind := range list(api.OpBegin, api.OpCommit, api.OpAbort) {
				wantNot(t, l, api.Op{Kind: kind, Table: name, Row: list(num(1)), Max: 1}, api.ErrState)
			}
			for _, most := range noMax {
				for _, lo := range list(nil, list(text("\xff"))) {
					wantNot(t, l, scanning(name, lo, nil, most), api.ErrArg)
				}
			}
		}
	}
}
