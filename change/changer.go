package change

import (
	"slices"

	"transom/api"
	"transom/convert"
	"transom/names"
	"transom/schema"
)

// changer is a change of one of the six Kinds. It holds the fields that its Kind has: the others of a Change play no part.
type changer interface {
	// targets tells the tables that are there instead of from: the tables that the change takes, one for each name.
	targets(from []api.Table) ([]api.Table, api.Errno)
}

// taker is a changer behind which tables are no more. (One that makes a table takes none.)
type taker interface {
	takes() []string
}

// changerOf tells c by its Kind: nil, if there is no such Kind.
func changerOf(c api.Change) changer {
	switch c.Kind {
	case api.ChangeCreate:
		return create{c.Def}
	case api.ChangeAdd:
		return add{one{c.Table}, c.Col}
	case api.ChangeDrop:
		return drop{one{c.Table}, c.Name}
	case api.ChangeRetype:
		return retype{one{c.Table}, c.Name, c.Type}
	case api.ChangeSplit:
		return split{one{c.Table}, c.To, c.Also, c.Names}
	case api.ChangeMerge:
		return merge{c.Table, c.Other, c.To}
	}
	return nil
}

// taken tells the names of the tables that are no more behind ch, which may be nil.
func taken(ch changer) []string {
	if t, ok := ch.(taker); ok {
		return t.takes()
	}
	return nil
}

// one is what all changes have that take one table: its name.
type one struct {
	table string
}

func (o one) takes() []string {
	return []string{o.table}
}

// create makes a table.
type create struct {
	def api.Table
}

func (c create) targets([]api.Table) ([]api.Table, api.Errno) {
	if err := schema.Check(c.def); err != api.OK {
		return nil, err
	}
	return []api.Table{copied(c.def)}, api.OK
}

// add puts a column behind the others.
type add struct {
	one
	col api.Col
}

func (a add) targets(from []api.Table) ([]api.Table, api.Errno) {
	if err := schema.CheckCol(a.col); err != api.OK {
		return nil, err
	}
	t := from[0]
	switch {
	case schema.Find(t, a.col.Name) >= 0:
		return nil, api.ErrTwice
	case len(t.Cols) == api.MaxCols:
		return nil, api.ErrLimit
	case !a.col.Null && a.col.Default.Kind == api.KindNull:
		// The rows that are there would have nothing to put into it.
		return nil, api.ErrType
	}
	t = copied(t)
	t.Cols = append(t.Cols, a.col)
	return []api.Table{t}, api.OK
}

// drop takes a column away.
type drop struct {
	one
	name string
}

func (d drop) targets(from []api.Table) ([]api.Table, api.Errno) {
	t := copied(from[0])
	at := behindKey(t, d.name)
	if at < 0 {
		return nil, api.ErrColumn
	}
	t.Cols = slices.Delete(t.Cols, at, at+1)
	return []api.Table{t}, api.OK
}

// retype makes a column one of another kind.
type retype struct {
	one
	name string
	kind int
}

func (r retype) targets(from []api.Table) ([]api.Table, api.Errno) {
	t := copied(from[0])
	at := behindKey(t, r.name)
	if at < 0 {
		return nil, api.ErrColumn
	}
	col := &t.Cols[at]
	if !convert.Can(col.Kind, r.kind) {
		return nil, api.ErrKind
	}
	col.Kind = r.kind
	// The error is not asked for: the Default beside it is null, which is what then stands there.
	col.Default, _ = convert.To(col.Default, r.kind)
	return []api.Table{t}, api.OK
}

// split makes two tables of one: both have its key, and each column behind it goes to one of them.
type split struct {
	one
	to, also string
	names    []string
}

func (s split) targets(from []api.Table) ([]api.Table, api.Errno) {
	if err := names.Check(s.to); err != api.OK {
		return nil, err
	}
	if err := names.Check(s.also); err != api.OK {
		return nil, err
	}
	if s.to == s.also {
		return nil, api.ErrTwice
	}
	t := from[0]
	named, err := places(t, s.names)
	if err != api.OK {
		return nil, err
	}
	to := api.Table{Name: s.to, Keys: t.Keys, Cols: slices.Clone(t.Cols[:t.Keys])}
	also := api.Table{Name: s.also, Keys: t.Keys, Cols: slices.Clone(t.Cols[:t.Keys])}
	for at := t.Keys; at < len(t.Cols); at++ {
		if named[at] {
			to.Cols = append(to.Cols, t.Cols[at])
		} else {
			also.Cols = append(also.Cols, t.Cols[at])
		}
	}
	return []api.Table{to, also}, api.OK
}

// merge makes one table of two.
type merge struct {
	table, other, to string
}

func (m merge) takes() []string {
	return []string{m.table, m.other}
}

func (m merge) targets(from []api.Table) ([]api.Table, api.Errno) {
	if m.table == m.other {
		return nil, api.ErrTwice
	}
	if err := names.Check(m.to); err != api.OK {
		return nil, err
	}
	t, other := copied(from[0]), from[1]
	// By one name: all but that must be the same.
	t.Name, other.Name = m.to, m.to
	if !schema.Same(t, other) {
		return nil, api.ErrType
	}
	return []api.Table{t}, api.OK
}

// behindKey tells the place of t's column of that name: -1, if there is none, or if it is one of the key's.
func behindKey(t api.Table, name string) int {
	at := schema.Find(t, name)
	if at < t.Keys {
		return -1
	}
	return at
}

// places tells which of t's columns have one of those names: ErrColumn, if one of the names is no column behind the key, or is there twice. t must be a table.
func places(t api.Table, l []string) ([api.MaxCols]bool, api.Errno) {
	var named [api.MaxCols]bool
	for _, name := range l {
		at := behindKey(t, name)
		if at < 0 || named[at] {
			return [api.MaxCols]bool{}, api.ErrColumn
		}
		named[at] = true
	}
	return named, api.OK
}
