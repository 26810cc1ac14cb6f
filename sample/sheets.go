package sample

import (
	"slices"

	"transom/api"
)

// CopiedRows tells l with rows of its own.
func CopiedRows(l [][]api.Value) [][]api.Value {
	l = slices.Clone(l)
	for i := range l {
		l[i] = slices.Clone(l[i])
	}
	return l
}

// CopiedLines tells l with rows of its own.
func CopiedLines(l []api.Line) []api.Line {
	l = slices.Clone(l)
	for i := range l {
		l[i].Row = slices.Clone(l[i].Row)
	}
	return l
}

// CopiedSheet tells s in memory of its own.
func CopiedSheet(s api.Sheet) api.Sheet {
	return api.Sheet{Table: Copied(s.Table), Lines: CopiedLines(s.Lines)}
}

// CopiedSheets tells l in memory of its own.
func CopiedSheets(l []api.Sheet) []api.Sheet {
	l = slices.Clone(l)
	for i := range l {
		l[i] = CopiedSheet(l[i])
	}
	return l
}

// RowsAlike tells whether a and b are the same rows, bit by bit.
func RowsAlike(a, b [][]api.Value) bool {
	return slices.EqualFunc(a, b, slices.Equal[[]api.Value])
}

// LineAlike tells whether a and b are the same row under the same Key, bit by bit.
func LineAlike(a, b api.Line) bool {
	return a.Key == b.Key && slices.Equal(a.Row, b.Row)
}

// SheetAlike tells whether a and b are the same in all, bit by bit.
func SheetAlike(a, b api.Sheet) bool {
	return Alike(a.Table, b.Table) && slices.EqualFunc(a.Lines, b.Lines, LineAlike)
}

// SheetsAlike tells whether a and b are the same sheets.
func SheetsAlike(a, b []api.Sheet) bool {
	return slices.EqualFunc(a, b, SheetAlike)
}

// RowsIn tells the rows of l, in their order.
func RowsIn(l []api.Line) [][]api.Value {
	rows := make([][]api.Value, len(l))
	for i, line := range l {
		rows[i] = line.Row
	}
	return rows
}

// RowsApart writes to all memory of those rows, and then of l, and tells whether no two of them share any.
func RowsApart(l [][]api.Value) bool {
	apart := Apart(l, Text("scribbled"), same)
	Scribble(l, []api.Value{Text("scribbled row")})
	return apart
}

// TablesApart writes to all memory of those tables, and then of l, and tells whether no two of them share any.
func TablesApart(l []api.Table) bool {
	var cols [][]api.Col
	for _, t := range l {
		cols = append(cols, t.Cols)
	}
	apart := Apart(cols, api.Col{Name: "scribbled"}, same)
	Scribble(l, api.Table{Name: "scribbled"})
	return apart
}

// SheetsApart writes to all memory of those sheets, and then of l, and tells whether no two of their lists share any.
func SheetsApart(l []api.Sheet) bool {
	var tables []api.Table
	var lines [][]api.Line
	var rows [][]api.Value
	for _, s := range l {
		tables = append(tables, s.Table)
		lines = append(lines, s.Lines)
		rows = append(rows, RowsIn(s.Lines)...)
	}
	apart := RowsApart(rows)
	apart = Apart(lines, api.Line{Key: "scribbled"}, LineAlike) && apart
	apart = TablesApart(tables) && apart
	Scribble(l, api.Sheet{Table: api.Table{Name: "scribbled"}})
	return apart
}
