package sample

import (
	"slices"
	"strconv"

	"transom/api"
)

// Names at the border of what a name may have: 16 bytes, and 17.
const (
	Longest = "abcdefghijklmnop"
	TooLong = "abcdefghijklmnopq"
)

// Col tells a column that is not Null, and whose Default is null.
func Col(name string, kind int) api.Col {
	return api.Col{Name: name, Kind: kind}
}

// Open tells a column that is Null.
func Open(name string, kind int) api.Col {
	return api.Col{Name: name, Kind: kind, Null: true}
}

// With tells c with that Default.
func With(c api.Col, v api.Value) api.Col {
	c.Default = v
	return c
}

// Table tells a table of that name.
func Table(name string, keys int, cols ...api.Col) api.Table {
	return api.Table{Name: name, Keys: keys, Cols: slices.Clone(cols)}
}

// Plain tells the table that the chapters' examples speak of: t, of a key column k, int, and a column v, text, Null.
func Plain() api.Table {
	return Table("t", 1, Col("k", api.KindInt), Open("v", api.KindText))
}

// Ints tells a table t of so many columns of numbers: c0, c1 and so on.
func Ints(keys, count int) api.Table {
	t := Table("t", keys)
	for i := range count {
		t.Cols = append(t.Cols, Col("c"+strconv.Itoa(i), api.KindInt))
	}
	return t
}

// Each tells a table of one column of each kind, the first two of which are the key.
func Each() api.Table {
	return Table("every_kind", 2,
		Col("truth", api.KindBool),
		With(Col("number", api.KindInt), Int(-7)),
		With(Open("ratio", api.KindReal), Real(One)),
		With(Open("raw", api.KindBytes), Bytes("\x00\xff")),
		With(Col("said", api.KindText), Text("\xc3\xa4")))
}

// Renamed tells t by another name.
func Renamed(t api.Table, name string) api.Table {
	t = Copied(t)
	t.Name = name
	return t
}

// Changed tells t with another column at that place.
func Changed(t api.Table, at int, c api.Col) api.Table {
	t = Copied(t)
	t.Cols[at] = c
	return t
}

// Copied tells t with columns of its own.
func Copied(t api.Table) api.Table {
	t.Cols = slices.Clone(t.Cols)
	return t
}

// Alike tells whether a and b are the same in all, in the language's own words: a list of no columns may be nil or not.
func Alike(a, b api.Table) bool {
	return a.Name == b.Name && a.Keys == b.Keys && slices.Equal(a.Cols, b.Cols)
}

// WrongTable is a table that may not be, and the error that chapter 9's Check tells of it.
type WrongTable struct {
	Table api.Table
	Err   api.Errno
}

// RefusedTables tells tables that may not be: one of each error that Check tells, and of each field.
func RefusedTables() []WrongTable {
	return []WrongTable{
		{api.Table{}, api.ErrName},
		{Renamed(Plain(), "1a"), api.ErrName},
		{Renamed(Plain(), TooLong), api.ErrName},
		{Table("m", 1), api.ErrLimit},
		{Renamed(Ints(1, 9), "m"), api.ErrLimit},
		{Renamed(Ints(0, 2), "m"), api.ErrArg},
		{Renamed(Ints(4, 8), "m"), api.ErrArg},
		{Renamed(Ints(3, 2), "m"), api.ErrArg},
		{Table("m", 1, Col("K", api.KindInt)), api.ErrName},
		{Table("m", 1, Col("k", 6)), api.ErrKind},
		{Table("m", 1, With(Col("k", api.KindBool), Bool(2))), api.ErrRange},
		{Table("m", 1, With(Col("k", api.KindInt), Bool(1))), api.ErrType},
		{Table("m", 1, Col("k", api.KindInt), Col("k", api.KindInt)), api.ErrTwice},
		{Table("m", 1, Open("k", api.KindInt)), api.ErrType},
	}
}
