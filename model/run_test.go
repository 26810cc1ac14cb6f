package model_test

import (
	"slices"
	"testing"

	"transom/api"
	"transom/sample"
)

// failed tells a reply that is an error.
func failed(err api.Errno) api.Reply {
	return api.Reply{Err: err}
}

// told tells a reply of those rows.
func told(rows ...[]api.Value) api.Reply {
	return api.Reply{Rows: rows}
}

func TestRunOfNone(t *testing.T) {
	for _, l := range append(around(named("m", 1, 2)), nil, many(16)) {
		wantRun(t, l, nil, l, nil)
		wantRun(t, l, list[api.Op](), l, nil)
	}
}

func TestRunOfOne(t *testing.T) {
	l := list(named("a", 1), named("m", 2, 3))
	wantRun(t, l, list(getting("m", num(3))), l, list(told(rowOf(3))))
	wantRun(t, l, list(deleting("m", num(3))), list(named("a", 1), named("m", 2)), list(told()))
	wantRun(t, l, list(deleting("m", num(4))), l, list(failed(api.ErrNoRow)))
	wantRun(t, l, list(api.Op{Kind: api.OpCommit}), l, list(failed(api.ErrState)))
}

// Each is asked of what those ahead left.
func TestRunOfMany(t *testing.T) {
	wantRun(t, nil, list(
		changing(creating(plain())),
		inserting("t", rowOf(2)...),
		inserting("t", rowOf(1)...),
		scanning("t", nil, nil, 64),
		updating("t", num(2), text("22")),
		getting("t", num(2)),
		deleting("t", num(1)),
		getting("t", num(1)),
		changing(retyping("t", "v", api.KindInt)),
		scanning("t", nil, nil, 64),
		changing(splitting("t", "b", "a", "v")),
		getting("a", num(2)),
		getting("b", num(2)),
		inserting("a", num(3)),
		changing(dropping("b", "v")),
		deleting("b", num(2)),
		changing(merging("b", "a", "t")),
		scanning("t", nil, nil, 64),
	), list(sheetOf(table("t", 1, col("k", api.KindInt)), list(num(2)), list(num(3)))), list(
		told(),
		told(),
		told(),
		told(rowOf(1), rowOf(2)),
		told(),
		told(list(num(2), text("22"))),
		told(),
		told(),
		told(),
		told(list(num(2), num(22))),
		told(),
		told(list(num(2))),
		told(list(num(2), num(22))),
		told(),
		told(),
		told(),
		told(),
		told(list(num(2)), list(num(3))),
	))
}

// An error ends nothing: what is behind it is asked of what was left ahead of it, wherever it lies.
func TestRunWithErrorsBetween(t *testing.T) {
	l := list(named("m", 1))
	to := list(named("m", 1, 2), named("n"))
	right := list(inserting("m", rowOf(2)...), scanning("m", nil, nil, 64), changing(creating(renamed(plain(), "n"))))
	replies := list(told(), told(rowOf(1), rowOf(2)), told())
	wantRun(t, l, right, to, replies)
	for _, no := range []struct {
		o   api.Op
		err api.Errno
	}{
		{api.Op{}, api.ErrArg},
		{scanning("m", nil, nil, 0), api.ErrArg},
		{api.Op{Kind: api.OpBegin}, api.ErrState},
		{api.Op{Kind: api.OpAbort}, api.ErrState},
		{getting("o", num(1)), api.ErrTable},
		{getting("m"), api.ErrType},
		{inserting("m", rowOf(1)...), api.ErrDup},
		{inserting("m", num(1), text("\xff")), api.ErrText},
		{updating("m", rowOf(3)...), api.ErrNoRow},
		{deleting("m", num(3)), api.ErrNoRow},
		{changing(creating(renamed(plain(), "m"))), api.ErrTwice},
		{changing(retyping("m", "v", api.KindInt)), api.ErrText},
		{changing(api.Change{}), api.ErrArg},
	} {
		for at := range len(right) + 1 {
			wantRun(t, l, between(right, at, no.o), to, between(replies, at, failed(no.err)))
			wantRun(t, l, between(between(right, at, no.o), at, no.o), to, between(between(replies, at, failed(no.err)), at, failed(no.err)))
		}
	}
	// Errors alone leave all as it was.
	wantRun(t, l, list(inserting("m", rowOf(1)...), api.Op{}, deleting("m", num(2))), l, list(failed(api.ErrDup), failed(api.ErrArg), failed(api.ErrNoRow)))
}

// Tables come up to as many as may be, and go again.
func TestRunOfAllTables(t *testing.T) {
	var ops []api.Op
	var replies []api.Reply
	for _, s := range many(18) {
		ops = append(ops, changing(creating(s.Table)), inserting(s.Table.Name, s.Lines[0].Row...))
		if len(ops) <= 32 {
			replies = append(replies, told(), told())
		} else {
			replies = append(replies, failed(api.ErrLimit), failed(api.ErrTable))
		}
	}
	wantRun(t, nil, ops, many(16), replies)
	keys := list(100)
	for i, s := range many(16)[1:] {
		ops = append(ops, changing(merging("t100", s.Table.Name, "t100")))
		keys = append(keys, 101+i)
		replies = append(replies, told())
	}
	wantRun(t, nil, ops, list(named("t100", keys...)), replies)
}

// Many rows, put in the order of their keys, against it, and from both ends.
func TestRunOfManyRows(t *testing.T) {
	var up, down, ends []api.Op
	var keys []int
	for n := range 150 {
		up = append(up, inserting("m", rowOf(n)...))
		down = append(down, inserting("m", rowOf(149-n)...))
		keys = append(keys, n)
	}
	for n := range 75 {
		ends = append(ends, up[n], down[n])
	}
	for _, ops := range list(up, down, ends) {
		wantRun(t, list(named("m")), ops, list(named("m", keys...)), make([]api.Reply, 150))
	}
}

func TestTables(t *testing.T) {
	wantTables(t, nil)
	wantTables(t, list[api.Sheet]())
	wantTables(t, list(named("t")), plain())
	wantTables(t, list(named("t", 1, 2, 3)), plain())
	wantTables(t, list(sheetOf(each()), named("f", 1), sheetOf(renamed(ints(3, 8), "g"))), each(), renamed(plain(), "f"), renamed(ints(3, 8), "g"))
	var all []api.Table
	for _, s := range many(16) {
		all = append(all, s.Table)
	}
	wantTables(t, many(16), all...)
	// Nothing is asked of them: in what order they stand, how many they are, or whether they may be.
	wantTables(t, list(named("b", 1), named("a"), named("b")), renamed(plain(), "b"), renamed(plain(), "a"), renamed(plain(), "b"))
	for _, no := range sample.RefusedTables() {
		wantTables(t, list(named("t"), api.Sheet{Table: no.Table, Lines: named("t", 1).Lines}), plain(), no.Table)
	}
	for _, s := range many(40) {
		all = append(all, s.Table)
	}
	wantTables(t, append(many(16), many(40)...), all...)
}

// differing tells sheets that differ from named("m", 1, 2, 3), each in one thing alone.
func differing() []api.Sheet {
	s := func() api.Sheet { return named("m", 1, 2, 3) }
	tables := list(renamed(plain(), "n"), renamed(plain(), ""), table("m", 2, plain().Cols...), table("m", 1, plain().Cols[0]),
		table("m", 1, append(plain().Cols, open("w", api.KindInt))...), table("m", 1, plain().Cols[1], plain().Cols[0]),
		table("m", 1, col("k", api.KindInt), open("w", api.KindText)), table("m", 1, col("k", api.KindInt), open("v", api.KindBytes)),
		table("m", 1, col("k", api.KindInt), col("v", api.KindText)), table("m", 1, col("k", api.KindInt), with(open("v", api.KindText), text(""))))
	var l []api.Sheet
	for _, of := range tables {
		l = append(l, api.Sheet{Table: of, Lines: s().Lines})
	}
	for at := range 3 {
		line := s().Lines[at]
		for _, row := range list(nil, line.Row[:1], append(slices.Clone(line.Row), null()), put(line.Row, 1, null()), put(line.Row, 1, text("")),
			put(line.Row, 0, num(9)), put(line.Row, 0, sample.Bool(1)), put(line.Row, 1, api.Value{Kind: api.KindText, S: line.Row[1].S, N: 1})) {
			l = append(l, api.Sheet{Table: s().Table, Lines: put(s().Lines, at, api.Line{Key: line.Key, Row: row})})
		}
		for _, key := range list("", line.Key+"\x00", line.Key[1:], "\xff") {
			l = append(l, api.Sheet{Table: s().Table, Lines: put(s().Lines, at, api.Line{Key: key, Row: line.Row})})
		}
		// The key's value, and so its bytes.
		l = append(l, api.Sheet{Table: s().Table, Lines: put(s().Lines, at, sheetOf(plain(), put(line.Row, 0, num(9))).Lines[0])})
		l = append(l, api.Sheet{Table: s().Table, Lines: without(s().Lines, at)})
	}
	return append(l, named("m"), named("m", 1, 2, 3, 4), named("m", 0, 1, 2, 3), named("m", 1, 3, 2), named("m", 3, 2, 1), api.Sheet{})
}

func TestSame(t *testing.T) {
	for _, l := range list(nil, list[api.Sheet](), list(api.Sheet{}), many(16), many(17)) {
		wantSame(t, l, l, true)
		wantSame(t, l, sample.CopiedSheets(l), true)
		wantSame(t, l, append(sample.CopiedSheets(l), named("z")), false)
		wantSame(t, l, append(sample.CopiedSheets(l), api.Sheet{}), false)
	}
	wantSame(t, nil, list[api.Sheet](), true)
	wantSame(t, list(named("m")), list(api.Sheet{Table: named("m").Table, Lines: []api.Line{}}), true)
	for _, l := range around(named("m", 1, 2, 3)) {
		wantSame(t, l, sample.CopiedSheets(l), true)
		for _, other := range differing() {
			there := slices.Clone(l)
			for at := range there {
				if there[at].Table.Name == "m" {
					there[at] = other
				}
			}
			wantSame(t, l, there, false)
			wantSame(t, there, sample.CopiedSheets(there), true)
		}
		for at := range l {
			wantSame(t, l, without(l, at), false)
			wantSame(t, l, between(l, at, l[at]), false)
			if at > 0 {
				wantSame(t, l, put(put(l, at, l[at-1]), at-1, l[at]), false) // in another order
			}
		}
		wantSame(t, l, nil, false)
	}
}

// Values of all kinds, those among them that differ in one bit: a row is the same as itself alone.
func TestSameOfAllValues(t *testing.T) {
	var all []api.Value
	for kind := api.KindNull; kind <= api.KindText; kind++ {
		all = append(all, sample.Some(kind)...)
	}
	for _, no := range refused() {
		all = append(all, no.Value)
	}
	for i, v := range all {
		for j, w := range all {
			wantSame(t, list(api.Sheet{Lines: list(api.Line{Row: list(num(1), v)})}), list(api.Sheet{Lines: list(api.Line{Row: list(num(1), w)})}), i == j || v == w)
			a, b := api.Sheet{Table: table("t", 1, with(col("k", 1), v))}, api.Sheet{Table: table("t", 1, with(col("k", 1), w))}
			wantSame(t, list(a), list(b), i == j || v == w)
		}
	}
}
