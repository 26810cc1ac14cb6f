package model_test

import (
	"slices"
	"testing"

	"transom/api"
	"transom/sample"
)

// inPlace tells l without the tables of those names, and with s, each where its name belongs. All names must differ then.
func inPlace(l []api.Sheet, gone []string, s ...api.Sheet) []api.Sheet {
	var out []api.Sheet
	for _, old := range l {
		if !slices.Contains(gone, old.Table.Name) {
			out = append(out, old)
		}
	}
	for _, fresh := range s {
		at := 0
		for at < len(out) && out[at].Table.Name < fresh.Table.Name {
			at++
		}
		out = between(out, at, fresh)
	}
	return out
}

// halves is a split of three: names of columns, and the places of those that the first table has then, and the second.
type halves struct {
	names    []string
	to, also []int
}

func splits() []halves {
	return []halves{
		{nil, list(0), list(0, 1, 2, 3)},
		{list("v"), list(0, 1), list(0, 2, 3)},
		{list("w"), list(0, 2), list(0, 1, 3)},
		{list("x"), list(0, 3), list(0, 1, 2)},
		{list("v", "x"), list(0, 1, 3), list(0, 2)},
		{list("x", "v"), list(0, 1, 3), list(0, 2)}, // in the table's order
		{list("x", "w", "v"), list(0, 1, 2, 3), list(0)},
	}
}

// A split to names of all places: both ahead of its own, both behind it, one on each side, its own name again, and among those of other tables.
func TestSplit(t *testing.T) {
	for count := range 5 {
		rows := rowsOfThree(count)
		for _, want := range splits() {
			for _, names := range list(list("c", "d"), list("d", "c"), list("n", "o"), list("y", "c"), list("m", "n"), list("l", "m"), list("zz", "aa")) {
				to := sheetOf(cols(names[0], want.to...), parts(rows, want.to...)...)
				also := sheetOf(cols(names[1], want.also...), parts(rows, want.also...)...)
				for i, l := range around(sheetOf(three(), rows...)) {
					if i < 4 {
						wantDone(t, l, changing(splitting("m", names[0], names[1], want.names...)), inPlace(l, list("m"), to, also))
						continue
					}
					wantNot(t, l, changing(splitting("m", names[0], names[1], want.names...)), api.ErrLimit)
				}
			}
		}
	}
}

// The key's columns are in both, as many as Keys says.
func TestSplitByEachKey(t *testing.T) {
	for keys, count := range sizes {
		of := ints(keys, count)
		rows := rising(keys, count, 3)
		for at := keys; at < count; at++ {
			to, also := ints(keys, count), ints(keys, count)
			to.Name, also.Name = "a", "b"
			to.Cols = append(to.Cols[:keys:keys], of.Cols[at])
			also.Cols = without(also.Cols, at)
			var toRows, alsoRows [][]api.Value
			for _, row := range rows {
				toRows = append(toRows, append(row[:keys:keys], row[at]))
				alsoRows = append(alsoRows, without(row, at))
			}
			wantDone(t, list(sheetOf(of, rows...)), changing(splitting("t", "a", "b", of.Cols[at].Name)),
				list(sheetOf(to, toRows...), sheetOf(also, alsoRows...)))
		}
	}
}

func TestSplitThatMayNotBe(t *testing.T) {
	for count := range 3 {
		l := list(named("a", 1), sheetOf(three(), rowsOfThree(count)...), named("x"))
		for _, no := range []struct {
			c   api.Change
			err api.Errno
		}{
			{splitting("n", "c", "d"), api.ErrTable},
			{splitting("n", "", "", "k"), api.ErrTable},
			{splitting("m", "", "d"), api.ErrName},
			{splitting("m", "c", "D"), api.ErrName},
			{splitting("m", sample.TooLong, "d"), api.ErrName},
			{splitting("m", "c", "c"), api.ErrTwice},
			{splitting("m", "m", "m"), api.ErrTwice},
			{splitting("m", "c", "c", "k"), api.ErrTwice},
			{splitting("m", "c", "d", "k"), api.ErrColumn},
			{splitting("m", "c", "d", "y"), api.ErrColumn},
			{splitting("m", "c", "d", "v", "v"), api.ErrColumn},
			{splitting("m", "a", "x", "k"), api.ErrColumn},
			{splitting("m", "a", "d"), api.ErrTwice},
			{splitting("m", "c", "a"), api.ErrTwice},
			{splitting("m", "m", "x"), api.ErrTwice},
		} {
			wantNot(t, l, changing(no.c), no.err)
		}
	}
	// As many as may be: none more, however they are called.
	wantDone(t, many(15), changing(splitting("t100", "a", "b")), append(list(sheetOf(sample.Table("a", 1, plain().Cols[0]), list(num(100))), named("b", 100)), many(15)[1:]...))
	wantNot(t, many(16), changing(splitting("t100", "a", "b")), api.ErrLimit)
	wantNot(t, many(16), changing(splitting("t100", "t100", "b")), api.ErrLimit)
	wantNot(t, many(16), changing(splitting("t100", "t101", "b")), api.ErrTwice)
	wantNot(t, many(16), changing(splitting("t100", "a", "b", "k")), api.ErrColumn)
}

// Keys that stand one behind the other, to and fro, or in one table alone.
func TestMerge(t *testing.T) {
	for _, want := range []struct{ a, b, all []int }{
		{nil, nil, nil},
		{list(1), nil, list(1)},
		{nil, list(1, 2, 3), list(1, 2, 3)},
		{list(1), list(2), list(1, 2)},
		{list(2), list(1), list(1, 2)},
		{list(1, 2, 3), list(4, 5), list(1, 2, 3, 4, 5)},
		{list(4, 5), list(1, 2, 3), list(1, 2, 3, 4, 5)},
		{list(1, 3, 5), list(2, 4, 6), list(1, 2, 3, 4, 5, 6)},
		{list(2, 4, 6), list(1, 3, 5), list(1, 2, 3, 4, 5, 6)},
		{list(1, 6), list(2, 3, 4, 5), list(1, 2, 3, 4, 5, 6)},
		{list(-7, -5, 0), list(-6, 3), list(-7, -6, -5, 0, 3)},
	} {
		for _, l := range list(
			list(named("m", want.a...), named("p", want.b...)),
			list(named("c", 1, 2, 3), named("m", want.a...), named("p", want.b...)),
			list(named("m", want.a...), named("n", 1, 2, 3), named("p", want.b...), named("x")),
			append(list(named("m", want.a...), named("p", want.b...)), many(14)...),
		) {
			for _, name := range list("a", "m", "mm", "o", "p", "q", "z") {
				to := inPlace(l, list("m", "p"), named(name, want.all...))
				wantDone(t, l, changing(merging("m", "p", name)), to)
				wantDone(t, l, changing(merging("p", "m", name)), to)
			}
		}
	}
}

// A row keeps all its values, whichever table it comes from.
func TestMergeOfRowsOfEachKind(t *testing.T) {
	first := list(sample.Bool(0), num(1), null(), sample.Bytes("\x00"), text("a"))
	second := list(sample.Bool(1), num(-1), sample.Real(sample.Inf), null(), text(""))
	third := list(sample.Bool(1), num(0), null(), null(), text("b"))
	l := list(sheetOf(renamed(each(), "a"), first, third), sheetOf(renamed(each(), "b"), second))
	wantDone(t, l, changing(merging("b", "a", "c")), list(sheetOf(renamed(each(), "c"), first, second, third)))
}

func TestMergeThatCollides(t *testing.T) {
	for _, two := range list(
		list(list(1), list(1)),
		list(list(1, 2, 3), list(1)),
		list(list(1, 2, 3), list(0, 2)),
		list(list(1, 2, 3), list(3, 4)),
		list(list(1, 3, 5), list(2, 4, 5)),
		list(list(1, 2, 3), list(1, 2, 3)),
	) {
		l := list(named("c"), named("m", two[0]...), named("n"), named("p", two[1]...))
		for _, name := range list("a", "m", "o", "p", "z") {
			wantNot(t, l, changing(merging("m", "p", name)), api.ErrCollide)
			wantNot(t, l, changing(merging("p", "m", name)), api.ErrCollide)
		}
		// What the change itself may not be is told ahead.
		wantNot(t, l, changing(merging("m", "p", "c")), api.ErrTwice)
		wantNot(t, l, changing(merging("m", "p", "n")), api.ErrTwice)
		wantNot(t, l, changing(merging("m", "m", "z")), api.ErrTwice)
		wantNot(t, l, changing(merging("m", "p", "")), api.ErrName)
		wantNot(t, l, changing(merging("m", "o", "z")), api.ErrTable)
		wantNot(t, l, changing(merging("o", "p", "z")), api.ErrTable)
	}
	// Rows of one key collide, even if all their values are the same; and so do keys of several columns.
	of := ints(2, 3)
	l := list(sheetOf(renamed(of, "a"), keyed(2, 3, 1), keyed(2, 3, 5)), sheetOf(renamed(of, "b"), keyed(2, 3, 3), other(2, 3, 5, num(0))))
	wantNot(t, l, changing(merging("a", "b", "c")), api.ErrCollide)
}

func TestMergeOfUnlikeTables(t *testing.T) {
	for _, other := range list(
		table("u", 1, col("k", api.KindInt)),
		table("u", 1, col("k", api.KindInt), col("v", api.KindText)),
		table("u", 1, col("k", api.KindInt), open("w", api.KindText)),
		table("u", 1, col("k", api.KindInt), open("v", api.KindBytes)),
		table("u", 1, col("k", api.KindInt), with(open("v", api.KindText), text("d"))),
		table("u", 1, col("k", api.KindInt), open("v", api.KindText), open("w", api.KindText)),
		table("u", 2, col("k", api.KindInt), col("v", api.KindText)),
	) {
		// Keys that collide are told behind it.
		row := append(list(num(1)), make([]api.Value, len(other.Cols)-1)...)
		for i, c := range other.Cols {
			if !c.Null && i > 0 {
				row[i] = text("x")
			}
		}
		l := list(named("t", 1), sheetOf(other, row))
		wantNot(t, l, changing(merging("t", "u", "v")), api.ErrType)
		wantNot(t, l, changing(merging("u", "t", "v")), api.ErrType)
	}
}
