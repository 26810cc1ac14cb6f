package sample

import (
	"slices"

	"transom/api"
)

// Dice tells a number from 0 on that is less than n: the random source of a test, as the program has none.
type Dice func(n int) int

// Pick tells one of l; now and then, one of other.
func Pick[T any](d Dice, l []T, other ...T) T {
	if len(other) > 0 && d(20) == 0 {
		l = other
	}
	return l[d(len(l))]
}

// Shuffled tells l in any order.
func Shuffled[T any](d Dice, l []T) []T {
	l = slices.Clone(l)
	for i := range l {
		j := i + d(len(l)-i)
		l[i], l[j] = l[j], l[i]
	}
	return l
}

// ColNames tells the names of columns that AnyTable takes: few, so that they are often met.
func ColNames() []string {
	return []string{"k", "l", "u", "v", "w", "x", "y", "z"}
}

// TableNames tells the names of tables that AnyTables takes, by rising names.
func TableNames() []string {
	return []string{"a", "b", "c", "d", "e", "f", "g", "h", "i", "j", "k", "l", "m", "n", "o", "p", "q", "r", "s"}
}

// AnyCol tells a column; one that may be the key's, if key.
func AnyCol(d Dice, name string, key bool) api.Col {
	c := api.Col{Name: name, Kind: 1 + d(5), Null: !key && d(2) == 0}
	if d(2) == 0 {
		c.Default = Pick(d, Some(c.Kind))
	}
	return c
}

// AnyTable tells a table of that name.
func AnyTable(d Dice, name string) api.Table {
	count := Pick(d, []int{1, 2, 3, 4, 5, 6, 7, 7, 8, 8})
	t := Table(name, 1+d(min(count, api.MaxKeys)))
	for i, col := range Shuffled(d, ColNames())[:count] {
		t.Cols = append(t.Cols, AnyCol(d, col, i < t.Keys))
	}
	return t
}

// AnyTables tells tables by rising names, some of which have the same columns; now and then, there are too many, or a name is out of order.
func AnyTables(d Dice) []api.Table {
	count := Pick(d, []int{0, 1, 2, 3, 4, 5, 14, 15, 16}, 17)
	names := Shuffled(d, TableNames())[:count]
	slices.Sort(names)
	out := make([]api.Table, count)
	for i, name := range names {
		out[i] = AnyTable(d, name)
		if i > 0 && d(3) == 0 {
			out[i] = Renamed(out[d(i)], name)
		}
	}
	if count > 1 && d(30) == 0 {
		out[d(count)].Name = Pick(d, TableNames(), "", "1")
	}
	return out
}

// AnyRow tells a row that fits t, if t may be a table.
func AnyRow(d Dice, t api.Table) []api.Value {
	row := make([]api.Value, len(t.Cols))
	for i, c := range t.Cols {
		if !c.Null || d(4) > 0 {
			row[i] = Pick(d, Some(c.Kind))
		}
	}
	return row
}

// Spoilt tells row, which now and then has a fault: a value less or more, or one that may not be, a null, or one of another kind.
func Spoilt(d Dice, row []api.Value) []api.Value {
	row = slices.Clone(row)
	fault := d(40)
	switch {
	case fault == 0:
		return append(row, Int(1))
	case len(row) == 0:
		return row
	case fault == 1:
		return row[:d(len(row))]
	case fault == 2:
		row[d(len(row))] = Pick(d, Refused()).Value
	case fault == 3:
		row[d(len(row))] = Null()
	case fault == 4:
		row[d(len(row))] = Int(1)
	}
	return row
}

// AnyChange tells a change of those tables, which now and then has a fault; the fields that its Kind does not have are filled, too.
func AnyChange(d Dice, l []api.Table) api.Change {
	of := api.Table{}
	if len(l) > 0 {
		of = Pick(d, l)
	}
	c := api.Change{
		Kind:  Pick(d, []int{1, 2, 3, 4, 5, 6}, 0, 7, -1),
		Table: of.Name,
		Other: anyName(d, l),
		To:    Pick(d, TableNames(), "", "A"),
		Also:  Pick(d, TableNames(), "", "1"),
		Name:  anyColName(d, of),
		Type:  Pick(d, []int{1, 2, 3, 4, 5}, -1, 0, 6),
		Col:   AnyCol(d, Pick(d, append(ColNames(), "new"), "", "1"), false),
		Def:   AnyTable(d, Pick(d, TableNames(), "")),
	}
	if d(10) == 0 {
		c.Table = anyName(d, l)
	}
	for range d(4) {
		if name := anyColName(d, of); !slices.Contains(c.Names, name) || d(10) == 0 {
			c.Names = append(c.Names, name)
		}
	}
	if d(30) == 0 {
		c.Col.Kind = d(8) - 1
	}
	return c
}

// anyName tells the name of one of those tables; now and then, of one that need not be there.
func anyName(d Dice, l []api.Table) string {
	if len(l) > 0 && d(10) > 0 {
		return Pick(d, l).Name
	}
	return Pick(d, TableNames())
}

// anyColName tells the name of one of t's columns behind the key; now and then, of one that need not be there.
func anyColName(d Dice, t api.Table) string {
	if len(t.Cols) > t.Keys && t.Keys >= 0 && d(10) > 0 {
		return Pick(d, t.Cols[t.Keys:]).Name
	}
	return Pick(d, ColNames())
}
