package model

import (
	"transom/api"
	"transom/change"
	"transom/sheet"
	"transom/transform"
)

// changed tells all tables behind c, by rising names: the first error, if c may not be, or a row may not move.
func changed(l []api.Sheet, c api.Change) ([]api.Sheet, api.Errno) {
	tables := Tables(l)
	all, err := change.Apply(tables, c)
	if err != api.OK {
		return nil, err
	}
	// Apply has told Targets' error ahead.
	targets, _ := change.Targets(tables, c)
	lines, err := moved(l, c)
	if err != api.OK {
		return nil, err
	}
	out := make([]api.Sheet, len(all))
	for i, t := range all {
		// A target first: it may have the name of a table that is no more.
		if at := change.Find(targets, t.Name); at >= 0 {
			out[i] = api.Sheet{Table: t, Lines: lines[at]}
		} else {
			out[i] = l[placeOf(l, t.Name)]
		}
	}
	return out, api.OK
}

// moved tells the lines of each target of c, which Apply takes.
func moved(l []api.Sheet, c api.Change) ([][]api.Line, api.Errno) {
	switch c.Kind {
	case api.ChangeCreate:
		return [][]api.Line{nil}, api.OK
	case api.ChangeMerge:
		lines, err := sheet.Merge(l[placeOf(l, c.Table)], l[placeOf(l, c.Other)])
		return [][]api.Line{lines}, err
	}
	from := l[placeOf(l, c.Table)]
	lists, _, err := transform.Rows(from.Table, c, rowsOf(from))
	if err != api.OK {
		return nil, err
	}
	out := make([][]api.Line, len(lists))
	for i, rows := range lists {
		out[i] = make([]api.Line, len(rows))
		for at, row := range rows {
			// A row that moves keeps its key, and so its place.
			out[i][at] = api.Line{Key: from.Lines[at].Key, Row: row}
		}
	}
	return out, api.OK
}

// rowsOf tells the rows of s, in their order.
func rowsOf(s api.Sheet) [][]api.Value {
	rows := make([][]api.Value, len(s.Lines))
	for i, line := range s.Lines {
		rows[i] = line.Row
	}
	return rows
}
