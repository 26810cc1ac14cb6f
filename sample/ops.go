package sample

import (
	"slices"

	"transom/api"
)

// Getting tells what asks for the row of that key.
func Getting(table string, key ...api.Value) api.Op {
	return api.Op{Kind: api.OpGet, Table: table, Row: slices.Clone(key)}
}

// Scanning tells what asks for the rows from lo on, ahead of hi, most of them at most.
func Scanning(table string, lo, hi []api.Value, most int) api.Op {
	return api.Op{Kind: api.OpScan, Table: table, Lo: slices.Clone(lo), Hi: slices.Clone(hi), Max: most}
}

// Inserting tells what asks that a new row be there.
func Inserting(table string, row ...api.Value) api.Op {
	return api.Op{Kind: api.OpInsert, Table: table, Row: slices.Clone(row)}
}

// Updating tells what asks that a row be there instead of that of its key.
func Updating(table string, row ...api.Value) api.Op {
	return api.Op{Kind: api.OpUpdate, Table: table, Row: slices.Clone(row)}
}

// Deleting tells what asks that the row of that key be gone.
func Deleting(table string, key ...api.Value) api.Op {
	return api.Op{Kind: api.OpDelete, Table: table, Row: slices.Clone(key)}
}

// Changing tells what asks for a change.
func Changing(c api.Change) api.Op {
	return api.Op{Kind: api.OpChange, Change: c}
}

// JunkOp tells o where the fields that its Kind does not have are those of with. It keeps nothing but the Kind of an op that asks for nothing of tables.
func JunkOp(o, with api.Op) api.Op {
	with.Kind = o.Kind
	switch o.Kind {
	case api.OpGet, api.OpInsert, api.OpUpdate, api.OpDelete:
		with.Table, with.Row = o.Table, o.Row
	case api.OpScan:
		with.Table, with.Lo, with.Hi, with.Max = o.Table, o.Lo, o.Hi, o.Max
	case api.OpChange:
		with.Change = o.Change
	}
	return with
}

// OpAlike tells whether a and b are the same in all, bit by bit: a list of nothing may be nil or not.
func OpAlike(a, b api.Op) bool {
	return a.Kind == b.Kind && a.Table == b.Table && a.Max == b.Max && slices.Equal(a.Row, b.Row) && slices.Equal(a.Lo, b.Lo) && slices.Equal(a.Hi, b.Hi) &&
		ChangeAlike(a.Change, b.Change)
}

// AnyOp tells what may be asked of those tables, which now and then has a fault; the fields that its Kind does not have are filled, too.
func AnyOp(d Dice, l []api.Sheet) api.Op {
	var tables []api.Table
	of := api.Sheet{}
	for _, s := range l {
		tables = append(tables, s.Table)
	}
	if len(l) > 0 {
		of = Pick(d, l)
	}
	o := api.Op{
		Kind:   Pick(d, []int{1, 2, 3, 3, 4, 5, 6}, -1, 0, 7, 8, 9, 10),
		Table:  of.Table.Name,
		Lo:     anyBegin(d, of),
		Hi:     anyBegin(d, of),
		Max:    Pick(d, []int{1, 2, 3, 4, 5, 63, 64}, api.MinInt, -1, 0, 65, api.MaxInt),
		Change: AnyChange(d, tables),
	}
	if d(20) == 0 {
		o.Table = anyName(d, tables)
	}
	switch o.Kind {
	case api.OpGet, api.OpDelete:
		o.Row = Spoilt(d, anyKey(d, of))
	case api.OpInsert:
		o.Row = Spoilt(d, AnyRow(d, of.Table))
	default:
		o.Row = Spoilt(d, anyUpdate(d, of))
	}
	return o
}

// anyKey tells a key of a row that fits s, more often than not of one that is there.
func anyKey(d Dice, s api.Sheet) []api.Value {
	row := AnyRow(d, s.Table)
	if len(s.Lines) > 0 && d(4) > 0 {
		row = slices.Clone(Pick(d, s.Lines).Row)
	}
	return row[:min(max(s.Table.Keys, 0), len(row))]
}

// anyBegin tells the beginning of a key, which may be all of it, or nothing; now and then, it is none.
func anyBegin(d Dice, s api.Sheet) []api.Value {
	key := anyKey(d, s)
	return Spoilt(d, key[:d(len(key)+1)])
}

// anyUpdate tells a row that fits s, more often than not one whose key is there.
func anyUpdate(d Dice, s api.Sheet) []api.Value {
	row := AnyRow(d, s.Table)
	copy(row, anyKey(d, s))
	return row
}
