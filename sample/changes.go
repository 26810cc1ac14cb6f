package sample

import (
	"slices"

	"transom/api"
)

// Creating tells a change that makes a table.
func Creating(def api.Table) api.Change {
	return api.Change{Kind: api.ChangeCreate, Def: def}
}

// Adding tells a change that puts a column behind the others of a table.
func Adding(table string, c api.Col) api.Change {
	return api.Change{Kind: api.ChangeAdd, Table: table, Col: c}
}

// Dropping tells a change that takes a column away.
func Dropping(table, name string) api.Change {
	return api.Change{Kind: api.ChangeDrop, Table: table, Name: name}
}

// Retyping tells a change that makes a column one of another kind.
func Retyping(table, name string, kind int) api.Change {
	return api.Change{Kind: api.ChangeRetype, Table: table, Name: name, Type: kind}
}

// Splitting tells a change that makes two tables of one: to has the columns of those names.
func Splitting(table, to, also string, names ...string) api.Change {
	return api.Change{Kind: api.ChangeSplit, Table: table, To: to, Also: also, Names: slices.Clone(names)}
}

// Merging tells a change that makes one table of two.
func Merging(table, other, to string) api.Change {
	return api.Change{Kind: api.ChangeMerge, Table: table, Other: other, To: to}
}

// Junk tells c where the fields that its Kind does not have are those of with. It keeps nothing but the Kind of a change of no Kind.
func Junk(c, with api.Change) api.Change {
	with.Kind = c.Kind
	switch c.Kind {
	case api.ChangeCreate:
		with.Def = c.Def
	case api.ChangeAdd:
		with.Table, with.Col = c.Table, c.Col
	case api.ChangeDrop:
		with.Table, with.Name = c.Table, c.Name
	case api.ChangeRetype:
		with.Table, with.Name, with.Type = c.Table, c.Name, c.Type
	case api.ChangeSplit:
		with.Table, with.To, with.Also, with.Names = c.Table, c.To, c.Also, c.Names
	case api.ChangeMerge:
		with.Table, with.Other, with.To = c.Table, c.Other, c.To
	}
	return with
}

// ChangeAlike tells whether a and b are the same in all, bit by bit: a list of nothing may be nil or not.
func ChangeAlike(a, b api.Change) bool {
	return a.Kind == b.Kind && a.Table == b.Table && a.Other == b.Other && a.To == b.To && a.Also == b.Also && a.Name == b.Name &&
		a.Type == b.Type && slices.Equal(a.Names, b.Names) && a.Col == b.Col && Alike(a.Def, b.Def)
}
