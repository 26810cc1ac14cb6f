package sample

import (
	"slices"

	"transom/api"
)

// spare is what stands behind the end of each list that the Roomy calls below tell.
const spare = "spare"

// RoomyTable tells t in memory of its own, with room behind its columns.
func RoomyTable(t api.Table) api.Table {
	t.Cols = Roomy(t.Cols, api.Col{Name: spare})
	return t
}

// KeptTable tells whether t, which RoomyTable told, is as it was.
func KeptTable(t, was api.Table) bool {
	return t.Name == was.Name && t.Keys == was.Keys && Kept(t.Cols, was.Cols, api.Col{Name: spare}, same)
}

// RoomyTables tells l in memory of its own, with room behind it, and behind each table's columns.
func RoomyTables(l []api.Table) []api.Table {
	return roomyAll(l, api.Table{Name: spare}, RoomyTable)
}

// KeptTables tells whether l, which RoomyTables told, is as it was.
func KeptTables(l, was []api.Table) bool {
	return keptAll(l, was, api.Table{Name: spare}, Alike, KeptTable)
}

// RoomyChange tells c in memory of its own, with room behind each list.
func RoomyChange(c api.Change) api.Change {
	c.Names = Roomy(c.Names, spare)
	c.Def = RoomyTable(c.Def)
	return c
}

// KeptChange tells whether the lists of c, which RoomyChange told, are as they were.
func KeptChange(c, was api.Change) bool {
	return Kept(c.Names, was.Names, spare, same) && KeptTable(c.Def, was.Def)
}

// RoomyRow tells row in memory of its own, with room behind it.
func RoomyRow(row []api.Value) []api.Value {
	return Roomy(row, Text(spare))
}

// KeptRow tells whether row, which RoomyRow told, is as it was.
func KeptRow(row, was []api.Value) bool {
	return Kept(row, was, Text(spare), same)
}

// RoomyRows tells l in memory of its own, with room behind it, and behind each row.
func RoomyRows(l [][]api.Value) [][]api.Value {
	return roomyAll(l, []api.Value{Text(spare)}, RoomyRow)
}

// KeptRows tells whether l, which RoomyRows told, is as it was.
func KeptRows(l, was [][]api.Value) bool {
	return keptAll(l, was, []api.Value{Text(spare)}, slices.Equal[[]api.Value], KeptRow)
}

// RoomySheet tells s in memory of its own, with room behind each list.
func RoomySheet(s api.Sheet) api.Sheet {
	s.Table = RoomyTable(s.Table)
	s.Lines = roomyAll(s.Lines, api.Line{Key: spare}, func(line api.Line) api.Line {
		line.Row = RoomyRow(line.Row)
		return line
	})
	return s
}

// KeptSheet tells whether s, which RoomySheet told, is as it was.
func KeptSheet(s, was api.Sheet) bool {
	return KeptTable(s.Table, was.Table) && keptAll(s.Lines, was.Lines, api.Line{Key: spare}, LineAlike, func(line, was api.Line) bool {
		return KeptRow(line.Row, was.Row)
	})
}

// RoomySheets tells l in memory of its own, with room behind each list.
func RoomySheets(l []api.Sheet) []api.Sheet {
	return roomyAll(l, api.Sheet{Table: api.Table{Name: spare}}, RoomySheet)
}

// KeptSheets tells whether l, which RoomySheets told, is as it was.
func KeptSheets(l, was []api.Sheet) bool {
	return keptAll(l, was, api.Sheet{Table: api.Table{Name: spare}}, SheetAlike, KeptSheet)
}

// RoomyOp tells o in memory of its own, with room behind each list.
func RoomyOp(o api.Op) api.Op {
	o.Row, o.Lo, o.Hi = RoomyRow(o.Row), RoomyRow(o.Lo), RoomyRow(o.Hi)
	o.Change = RoomyChange(o.Change)
	return o
}

// KeptOp tells whether the lists of o, which RoomyOp told, are as they were.
func KeptOp(o, was api.Op) bool {
	return KeptRow(o.Row, was.Row) && KeptRow(o.Lo, was.Lo) && KeptRow(o.Hi, was.Hi) && KeptChange(o.Change, was.Change)
}

// RoomyOps tells l in memory of its own, with room behind each list.
func RoomyOps(l []api.Op) []api.Op {
	return roomyAll(l, api.Op{Table: spare}, RoomyOp)
}

// KeptOps tells whether l, which RoomyOps told, is as it was.
func KeptOps(l, was []api.Op) bool {
	return keptAll(l, was, api.Op{Table: spare}, func(a, b api.Op) bool {
		return a.Kind == b.Kind && a.Table == b.Table && a.Max == b.Max
	}, KeptOp)
}
