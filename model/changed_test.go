package model_test

import (
	"slices"
	"testing"

	"transom/api"
	"transom/sample"
)

// three tells a table m of a key, a text that may be null, and two columns of numbers.
func three() api.Table {
	return table("m", 1, col("k", api.KindInt), open("v", api.KindText), col("w", api.KindInt), open("x", api.KindInt))
}

// rowsOfThree tells rows that fit three, as many as are asked for: texts in them are numbers.
func rowsOfThree(count int) [][]api.Value {
	return list(
		list(num(-1), text("7"), num(10), null()),
		list(num(2), null(), num(20), num(5)),
		list(num(3), text("-12"), num(30), null()),
		list(num(9), text("0"), num(40), num(6)),
	)[:count]
}

// parts tells the values at those places of each row.
func parts(rows [][]api.Value, places ...int) [][]api.Value {
	out := make([][]api.Value, len(rows))
	for i, row := range rows {
		for _, at := range places {
			out[i] = append(out[i], row[at])
		}
	}
	return out
}

// cols tells a table of that name that has three's columns at those places.
func cols(name string, places ...int) api.Table {
	of := table(name, 1)
	for _, at := range places {
		of.Cols = append(of.Cols, three().Cols[at])
	}
	return of
}

func TestCreate(t *testing.T) {
	a, m, x := named("a", 1), named("m", 2, 3), named("x")
	for _, want := range []struct {
		l, to []api.Sheet
		def   api.Table
	}{
		{nil, list(api.Sheet{Table: each()}), each()},
		{list(m), list(m, named("n")), renamed(plain(), "n")},
		{list(m), list(named("l"), m), renamed(plain(), "l")},
		{list(a, m, x), list(a, named("b"), m, x), renamed(plain(), "b")},
		{list(a, m, x), list(a, m, named("m0"), x), renamed(plain(), "m0")},
		{list(a, m, x), list(a, m, x, named("y")), renamed(plain(), "y")},
		{list(a, m, x), list(a, api.Sheet{Table: renamed(ints(3, 8), "k")}, m, x), renamed(ints(3, 8), "k")},
		{many(15), append(many(15), named("z")), renamed(plain(), "z")},
		{many(15), append(list(named("a")), many(15)...), renamed(plain(), "a")},
	} {
		wantDone(t, want.l, changing(creating(want.def)), want.to)
	}
	for _, no := range sample.RefusedTables() {
		wantNot(t, list(a, m), changing(creating(no.Table)), no.Err)
	}
	wantNot(t, list(a, m), changing(creating(renamed(each(), "m"))), api.ErrTwice)
	wantNot(t, many(16), changing(creating(plain())), api.ErrLimit)
	wantNot(t, many(16), changing(creating(many(1)[0].Table)), api.ErrTwice) // ahead of how many they are
	wantNot(t, many(16), changing(creating(ints(0, 1))), api.ErrArg)
}

func TestAdd(t *testing.T) {
	for _, c := range list(open("n", api.KindInt), with(col("n", api.KindText), text("d")), with(open("n", api.KindReal), sample.Real(sample.One))) {
		for count := range 5 {
			to := three()
			to.Cols = append(to.Cols, c)
			rows := rowsOfThree(count)
			for i := range rows {
				rows[i] = append(slices.Clone(rows[i]), c.Default)
			}
			for _, l := range around(sheetOf(three(), rowsOfThree(count)...)) {
				wantDone(t, l, changing(adding("m", c)), replaced(l, sheetOf(to, rows...)))
			}
		}
	}
	l := list(named("a", 1), sheetOf(three(), rowsOfThree(2)...))
	wantNot(t, l, changing(adding("m", col("n", api.KindInt))), api.ErrType)
	wantNot(t, l, changing(adding("m", open("v", api.KindInt))), api.ErrTwice)
	wantNot(t, l, changing(adding("m", open("k", api.KindInt))), api.ErrTwice)
	wantNot(t, l, changing(adding("m", open("n", 6))), api.ErrKind)
	wantNot(t, l, changing(adding("m", open("", api.KindInt))), api.ErrName)
	wantNot(t, l, changing(adding("m", with(open("n", api.KindInt), sample.Bool(2)))), api.ErrRange)
	wantNot(t, l, changing(adding("b", open("n", api.KindInt))), api.ErrTable)
	wantNot(t, list(sheetOf(ints(1, 8), keyed(1, 8, 1))), changing(adding("t", open("n", api.KindInt))), api.ErrLimit)
}

func TestDrop(t *testing.T) {
	for at, left := range map[int][]int{1: {0, 2, 3}, 2: {0, 1, 3}, 3: {0, 1, 2}} {
		for count := range 5 {
			rows := rowsOfThree(count)
			for _, l := range around(sheetOf(three(), rows...)) {
				to := sheetOf(cols("m", left...), parts(rows, left...)...)
				wantDone(t, l, changing(dropping("m", three().Cols[at].Name)), replaced(l, to))
			}
		}
	}
	l := list(named("a", 1), sheetOf(three(), rowsOfThree(2)...))
	wantNot(t, l, changing(dropping("m", "k")), api.ErrColumn)
	wantNot(t, l, changing(dropping("m", "y")), api.ErrColumn)
	wantNot(t, l, changing(dropping("n", "v")), api.ErrTable)
}

func TestRetype(t *testing.T) {
	to := three()
	to.Cols[1] = open("v", api.KindInt)
	for count := range 5 {
		rows := rowsOfThree(count)
		moved := slices.Clone(rows)
		for i, v := range list(num(7), null(), num(-12), num(0))[:count] {
			moved[i] = put(rows[i], 1, v)
		}
		for _, l := range around(sheetOf(three(), rows...)) {
			wantDone(t, l, changing(retyping("m", "v", api.KindInt)), replaced(l, sheetOf(to, moved...)))
			// A kind becomes itself.
			wantDone(t, l, changing(retyping("m", "w", api.KindInt)), l)
		}
	}
	// The Default moves, too; if it may not, it is null.
	of := table("t", 1, col("k", api.KindInt), with(open("v", api.KindText), text("8")), with(open("w", api.KindText), text("x")))
	l := list(sheetOf(of, list(num(1), text("1"), text("2"))))
	be := table("t", 1, col("k", api.KindInt), with(open("v", api.KindInt), num(8)), with(open("w", api.KindText), text("x")))
	wantDone(t, l, changing(retyping("t", "v", api.KindInt)), list(sheetOf(be, list(num(1), num(1), text("2")))))
	be = table("t", 1, col("k", api.KindInt), with(open("v", api.KindText), text("8")), open("w", api.KindInt))
	wantDone(t, l, changing(retyping("t", "w", api.KindInt)), list(sheetOf(be, list(num(1), text("1"), num(2)))))
}

// A row alone that may not move, at each place, the last one too: text that is no number, or a number that is no truth.
func TestRetypeThatIsRefused(t *testing.T) {
	for _, no := range list(
		refusal{"v", api.KindInt, 1, text("x"), api.ErrText},
		refusal{"v", api.KindInt, 1, text("9223372036854775808"), api.ErrText},
		refusal{"w", api.KindBool, 2, num(2), api.ErrRange},
		refusal{"w", api.KindBool, 2, num(-1), api.ErrRange},
	) {
		for count := 1; count <= 4; count++ {
			rows := rowsOfThree(count)
			for i := range rows {
				rows[i] = put(rows[i], 2, num(i%2))
			}
			for at := range count {
				for _, l := range around(sheetOf(three(), put(rows, at, put(rows[at], no.at, no.value))...)) {
					wantNot(t, l, changing(retyping("m", no.name, no.kind)), no.err)
				}
			}
		}
	}
}

// refusal is a column that a retype makes one of that kind, a value that is none there, and why.
type refusal struct {
	name     string
	kind, at int
	value    api.Value
	err      api.Errno
}

// What the change itself may not be is told ahead of its rows, and if there are none, too.
func TestRetypeThatMayNotBe(t *testing.T) {
	for count := range 2 {
		rows := rowsOfThree(count)
		for i := range rows {
			rows[i] = put(rows[i], 1, text("x"))
		}
		l := list(named("a", 1), sheetOf(three(), rows...))
		wantNot(t, l, changing(retyping("m", "k", api.KindInt)), api.ErrColumn)
		wantNot(t, l, changing(retyping("m", "y", api.KindInt)), api.ErrColumn)
		wantNot(t, l, changing(retyping("n", "v", api.KindInt)), api.ErrTable)
		for _, kind := range list(api.MinInt, -1, 0, 6, 258, api.MaxInt) {
			wantNot(t, l, changing(retyping("m", "v", kind)), api.ErrKind)
		}
		wantNot(t, l, changing(retyping("m", "v", api.KindReal)), api.ErrKind)
	}
}

func TestKindsOfChangesThatThereAreNot(t *testing.T) {
	for _, kind := range list(api.MinInt, -1, 0, 7, 8, 256, 257, 262, 1<<32+1, api.MaxInt) {
		for _, l := range append(around(named("m", 1)), nil) {
			wantNot(t, l, changing(api.Change{Kind: kind, Table: "m"}), api.ErrArg)
		}
	}
}

// OpChange asks for no table of Op's own: wherever the change's stands, it is found.
func TestChangeAsksForNoTable(t *testing.T) {
	for _, l := range around(sheetOf(three(), rowsOfThree(3)...)) {
		to := replaced(l, sheetOf(cols("m", 0, 1), parts(rowsOfThree(3), 0, 1)...))
		for _, name := range append(strange, "a", "m", "x") {
			for _, most := range list(-1, 0, 1) {
				o := changing(dropping("m", "w"))
				o.Table, o.Max = name, most
				between, _ := askDo(t, l, o)
				o.Change = dropping("m", "x")
				wantDone(t, between, o, to)
			}
		}
	}
}
