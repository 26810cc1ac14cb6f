package ops_test

import (
	"slices"
	"strings"
	"testing"

	"transom/api"
	"transom/sample"
)

// base tells an op of that Kind, in each of whose fields something stands.
func base(kind int) api.Op {
	return api.Op{Kind: kind, Table: "t", Row: mixed(), Lo: list(num(1)), Hi: list(num(2), said("x")), Max: 7, Change: named(typed(filled(merging("", "", "")), 5), "v", "w")}
}

// otherRows tells rows that differ from row in one thing: they may be none.
func otherRows(row []api.Value) [][]api.Value {
	l := list(append(slices.Clone(row), null()), append(list(null()), row...), slices.Concat(row, wide(), row))
	for at := range row {
		for _, v := range list(null(), num(9), num(-9), sample.Bool(0), sample.Bool(2), sample.Real(sample.Sign), sample.Real(sample.TheNaN+1), sample.Bytes("y"), said("y"), said("\xff"), api.Value{Kind: 6}, api.Value{N: 1}) {
			if v != row[at] {
				other := slices.Clone(row)
				other[at] = v
				l = append(l, other)
			}
		}
		l = append(l, slices.Delete(slices.Clone(row), at, at+1))
	}
	return l
}

// otherOps tells ops that differ from o in one field each, but for Change.
func otherOps(o api.Op) []api.Op {
	var l []api.Op
	for _, kind := range list(api.MinInt, -1, 0, 1, 2, 3, 4, 5, 6, 7, 8, 9, 10, 257, api.MaxInt) {
		if kind != o.Kind {
			other := o
			other.Kind = kind
			l = append(l, other)
		}
	}
	for _, s := range list("", "u", "T", "t\x00", o.Table+"t", tooLong, strings.Repeat("t", 300)) {
		if s != o.Table {
			other := o
			other.Table = s
			l = append(l, other)
		}
	}
	for _, most := range list(api.MinInt, -1, 0, 6, 8, 64, 65, 263, api.MaxInt) {
		if most != o.Max {
			other := o
			other.Max = most
			l = append(l, other)
		}
	}
	for _, row := range otherRows(o.Row) {
		other := o
		other.Row = row
		l = append(l, other)
	}
	for _, row := range otherRows(o.Lo) {
		other := o
		other.Lo = row
		l = append(l, other)
	}
	for _, row := range otherRows(o.Hi) {
		other := o
		other.Hi = row
		l = append(l, other)
	}
	return l
}

// Each is the same as itself alone, whether Put takes it or not.
func TestSame(t *testing.T) {
	for kind := api.OpGet; kind <= api.OpAbort; kind++ {
		o := base(kind)
		wantSame(t, o, o, true)
		wantSame(t, api.Op{Kind: kind, Change: o.Change}, api.Op{Kind: kind, Row: []api.Value{}, Lo: []api.Value{}, Hi: []api.Value{}, Change: o.Change}, true)
		for _, other := range otherOps(o) {
			wantSame(t, o, other, false)
			wantSame(t, other, other, true)
		}
	}
	for _, o := range someOps() {
		wantSame(t, o, o, true)
	}
	// Rows that stand in one another's place.
	o := base(api.OpScan)
	other := o
	other.Lo, other.Hi = o.Hi, o.Lo
	wantSame(t, o, other, false)
	other = o
	other.Row, other.Lo = o.Lo, o.Row
	wantSame(t, o, other, false)
}

// Of what Put refuses: the fields but for Change are held against each other.
func TestSameOfWhatPutRefuses(t *testing.T) {
	for kind := api.OpGet; kind <= api.OpAbort; kind++ {
		for i, no := range opFaults() {
			o := base(kind)
			no.make(&o)
			if no.turn == 5 {
				continue
			}
			wantSame(t, o, o, true)
			wantSame(t, o, base(kind), false)
			if i%9 == kind%9 {
				for _, other := range otherOps(o) {
					wantSame(t, o, other, false)
				}
			}
		}
	}
	wantSame(t, api.Op{}, api.Op{}, true)
	wantSame(t, api.Op{}, api.Op{Change: dropping("t", "v")}, true) // no OpChange: Change plays no part
	wantSame(t, api.Op{Kind: -1}, api.Op{Kind: -1, Change: api.Change{Kind: -1}}, true)
	wantSame(t, api.Op{Kind: 10}, api.Op{Kind: 11}, false)
	wantSame(t, api.Op{Kind: 7, Max: -1}, api.Op{Kind: 7, Max: -1}, true)
	wantSame(t, api.Op{Kind: 7, Max: -1}, api.Op{Kind: 7, Max: -2}, false)
	wantSame(t, api.Op{Kind: 7, Table: tooLong}, api.Op{Kind: 7, Table: tooLong}, true)
	wantSame(t, api.Op{Kind: 7, Table: tooLong}, api.Op{Kind: 7, Table: tooLong + "r"}, false)
	wantSame(t, api.Op{Kind: 7, Row: times(null(), 9)}, api.Op{Kind: 7, Row: times(null(), 9)}, true)
	wantSame(t, api.Op{Kind: 7, Row: times(null(), 9)}, api.Op{Kind: 7, Row: times(null(), 10)}, false)
}

// Values of all kinds, those among them that differ in one bit, and those that may not be: a row is the same as itself alone.
func TestSameOfAllValues(t *testing.T) {
	var all []api.Value
	for kind := api.KindNull; kind <= api.KindText; kind++ {
		all = append(all, some(kind)...)
	}
	for _, no := range refused() {
		all = append(all, no.Value)
	}
	for _, v := range all {
		for _, w := range all {
			wantSame(t, sample.Getting("t", num(1), v), sample.Getting("t", num(1), w), v == w)
			wantSame(t, sample.Scanning("t", list(v), nil, 1), sample.Scanning("t", list(w), nil, 1), v == w)
			wantSame(t, sample.Scanning("t", nil, list(v), 1), sample.Scanning("t", nil, list(w), 1), v == w)
			wantReplies(t, api.Reply{Rows: list(list(num(1), v))}, api.Reply{Rows: list(list(num(1), w))}, v == w)
		}
	}
}

// otherChanges tells changes that differ from c in one field each that is written of it.
func otherChanges(c api.Change) []api.Change {
	var l []api.Change
	for _, of := range kindsOfChanges() {
		if of.Kind != c.Kind {
			other := c
			other.Kind = of.Kind
			l = append(l, other)
		}
	}
	for _, s := range list("", "u", longest) {
		l = append(l, longTexts(c, s)...)
	}
	for _, kind := range list(0, 1, 4, 6, 100) {
		l = append(l, typed(c, kind))
	}
	for _, names := range list(nil, list("v"), list("w"), list("w", "v"), list("v", "w", "w"), list("v", ""), list("v", longest), times("v", 8)) {
		l = append(l, named(c, names...))
	}
	switch c.Kind {
	case api.ChangeCreate:
		for _, def := range list(each(), sample.Renamed(plain(), "u"), table("t", 1, plain().Cols[0]), ints(1, 2), ints(2, 2)) {
			other := c
			other.Def = def
			l = append(l, other)
		}
	case api.ChangeAdd:
		for _, of := range list(open("k", api.KindText), open("j", api.KindText), open("v", api.KindBytes), col("v", api.KindText), with(open("v", api.KindText), said(""))) {
			other := c
			other.Col = of
			l = append(l, other)
		}
	}
	return l
}

// Of an OpChange all is held against each other that is written of its Change; of others nothing of it is.
func TestSameOfChanges(t *testing.T) {
	for _, c := range kindsOfChanges() {
		c = named(typed(filled(c), 5), "v", "w")
		// A Kind that is another one's finds its table.
		c.Def, c.Col = plain(), open("v", api.KindText)
		for kind := api.OpGet; kind <= api.OpAbort; kind++ {
			o := base(kind)
			o.Change = c
			wantSame(t, o, o, true)
			for _, other := range otherChanges(c) {
				of := o
				of.Change = other
				wantSame(t, o, of, kind != api.OpChange)
			}
		}
	}
}

// Def and Col of Kinds that have none play no part, whatever they are.
func TestSameOfDefAndCol(t *testing.T) {
	for _, c := range kindsOfChanges() {
		for _, def := range list(plain(), each(), ints(0, 9)) {
			for _, of := range list(open("v", api.KindText), open("k", api.KindInt), open("", 9)) {
				junk := c
				if c.Kind != api.ChangeCreate {
					junk.Def = def
				}
				if c.Kind != api.ChangeAdd {
					junk.Col = of
				}
				wantSame(t, changing(c), changing(junk), true)
			}
		}
	}
}

// An OpChange whose PutChange is refused is the same as none, not even as itself; of others that Change plays no part.
func TestSameOfChangesThatAreRefused(t *testing.T) {
	for _, of := range kindsOfChanges() {
		for _, no := range changeFaults() {
			c := of
			no.make(&c)
			if no.err == noTableError && c.Kind != api.ChangeCreate && c.Kind != api.ChangeAdd {
				wantSame(t, changing(c), changing(of), true)
				continue
			}
			wantSame(t, changing(c), changing(c), false)
			wantSame(t, changing(c), changing(of), false)
			for _, kind := range list(0, 1, 5, 7, 9, 10) {
				wantSame(t, api.Op{Kind: kind, Change: c}, api.Op{Kind: kind, Change: of}, true)
			}
			// Put refuses both for their Table, too.
			wantSame(t, api.Op{Kind: 6, Table: tooLong, Change: c}, api.Op{Kind: 6, Table: tooLong, Change: c}, false)
			wantSame(t, api.Op{Kind: 6, Table: tooLong, Change: of}, api.Op{Kind: 6, Table: tooLong, Change: of}, true)
		}
	}
}

// Of an OpChange that Put refuses for something else the changes are held against each other.
func TestSameOfChangesWherePutRefuses(t *testing.T) {
	c := named(typed(filled(adding("", open("v", api.KindText))), 5), "v", "w")
	for _, no := range opFaults() {
		o := changing(c)
		no.make(&o)
		if no.turn == 5 || o.Kind != api.OpChange {
			continue
		}
		wantSame(t, o, o, true)
		for _, other := range otherChanges(c)[5:] {
			of := o
			of.Change = other
			wantSame(t, o, of, false)
		}
	}
}

// replies tells replies that differ from each other.
func replies() []api.Reply {
	rows := list(mixed(), list(num(1)), wide())
	l := list(api.Reply{}, api.Reply{Rows: rows}, api.Reply{Rows: rows[:1]}, api.Reply{Rows: rows[:2]}, api.Reply{Rows: rows[1:]}, api.Reply{Rows: list(rows[1], rows[0], rows[2])},
		api.Reply{Rows: append(slices.Clone(rows), rows[2])}, api.Reply{Rows: list[[]api.Value](nil)}, api.Reply{Rows: list[[]api.Value](nil, nil)}, api.Reply{Rows: times(list(num(1)), 64)}, api.Reply{Rows: times(list(num(1)), 65)})
	for at := range rows {
		for _, row := range otherRows(rows[at]) {
			other := slices.Clone(rows)
			other[at] = row
			l = append(l, api.Reply{Rows: other})
		}
	}
	for _, err := range list(api.ErrArg, api.ErrNoRow, api.ErrNone, 256, -1) {
		l = append(l, api.Reply{Err: err}, api.Reply{Err: err, Rows: rows})
	}
	return l
}

func TestReplies(t *testing.T) {
	l := replies()
	for i, a := range l {
		for j, b := range l {
			wantReplies(t, a, b, i == j || a.Err == b.Err && sample.RowsAlike(a.Rows, b.Rows))
		}
	}
	rows := list(mixed(), list(num(1)))
	wantReplies(t, api.Reply{Rows: rows}, api.Reply{Rows: sample.CopiedRows(rows)}, true)
	wantReplies(t, api.Reply{}, api.Reply{Rows: [][]api.Value{}}, true)
	wantReplies(t, api.Reply{Rows: list[[]api.Value](nil)}, api.Reply{Rows: list([]api.Value{})}, true)
	wantReplies(t, api.Reply{Err: api.ErrDup}, api.Reply{Err: api.ErrNoRow}, false)
	wantReplies(t, api.Reply{Err: api.ErrDup, Rows: rows}, api.Reply{Err: api.ErrDup, Rows: rows[:1]}, false)
	wantReplies(t, api.Reply{Rows: list(list(num(1)), nil)}, api.Reply{Rows: list(list(num(1)))}, false)
}
