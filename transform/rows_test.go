package transform_test

import (
	"testing"

	"transom/api"
	"transom/sample"
)

// none tells so many lists without rows.
func none(count int) [][][]api.Value {
	return make([][][]api.Value, count)
}

// Changes of t that have no fault where t is ints(1, 3), and how many tables there are instead: each Kind from ChangeAdd to ChangeMerge.
func right() []struct {
	c     api.Change
	count int
} {
	return []struct {
		c     api.Change
		count int
	}{
		{adding("t", open("v", api.KindInt)), 1},
		{adding("t", with(col("v", api.KindInt), num(7))), 1},
		{dropping("t", "c1"), 1},
		{dropping("t", "c2"), 1},
		{retyping("t", "c1", api.KindText), 1},
		{retyping("t", "c2", api.KindBool), 1},
		{splitting("t", "a", "b"), 2},
		{splitting("t", "a", "b", "c2"), 2},
		{splitting("t", "a", "b", "c2", "c1"), 2},
		{merging("t", "u", "v"), 1},
		{merging("u", "t", "v"), 1},
	}
}

// Without rows nothing is asked but the Kind: neither of the table nor of the change's other fields.
func TestNoRows(t *testing.T) {
	tables := list(ints(1, 3), plain(), renamed(plain(), "x"), api.Table{}, ints(0, 0), ints(-1, 3), ints(9, 300))
	for _, no := range refused() {
		tables = append(tables, no.Table)
	}
	for _, of := range tables {
		for _, l := range [][][]api.Value{nil, {}} {
			for _, want := range right() {
				wantRows(t, of, want.c, l, none(want.count)...)
			}
			for kind := api.ChangeAdd; kind <= api.ChangeMerge; kind++ {
				count := 1
				if kind == api.ChangeSplit {
					count = 2
				}
				wantRows(t, of, api.Change{Kind: kind}, l, none(count)...)
				wantRows(t, of, whole(kind), l, none(count)...)
			}
			wantRows(t, of, dropping("t", "c0"), l, none(1)...)
			wantRows(t, of, dropping("t", "v9"), l, none(1)...)
			wantRows(t, of, retyping("t", "c0", 9), l, none(1)...)
			for _, kind := range append(farOff, api.ChangeCreate) {
				wantNoRows(t, of, whole(kind), l, 0, api.ErrArg)
				wantNoRows(t, of, api.Change{Kind: kind}, l, 0, api.ErrArg)
			}
		}
	}
}

// Rows that differ: they stay in their order, in each target.
func TestSeveralRows(t *testing.T) {
	of := table("t", 2, col("k", api.KindInt), col("l", api.KindText), open("v", api.KindText), open("w", api.KindInt))
	l := list(
		list(num(3), text("a"), text("33"), num(333)),
		list(num(1), text("b"), null(), num(111)),
		list(num(2), text("a"), text("-22"), null()),
		list(num(2), text("a"), text("0"), num(0)), // the same key once more: who asks sees to keys
	)
	picked := func(places ...int) [][]api.Value {
		out := make([][]api.Value, len(l))
		for i, r := range l {
			out[i] = at(r, places...)
		}
		return out
	}
	wantRows(t, of, dropping("t", "v"), l, picked(0, 1, 3))
	wantRows(t, of, dropping("t", "w"), l, picked(0, 1, 2))
	wantRows(t, of, splitting("t", "b", "a", "w"), l, picked(0, 1, 3), picked(0, 1, 2))
	wantRows(t, of, splitting("t", "a", "b", "w", "v"), l, picked(0, 1, 2, 3), picked(0, 1))
	wantRows(t, of, splitting("t", "a", "b"), l, picked(0, 1), picked(0, 1, 2, 3))
	wantRows(t, of, merging("t", "u", "u"), l, l)
	wantRows(t, of, merging("u", "t", "u"), l, l)
	wantRows(t, of, adding("t", with(open("x", api.KindInt), num(9))), l, list(
		list(num(3), text("a"), text("33"), num(333), num(9)),
		list(num(1), text("b"), null(), num(111), num(9)),
		list(num(2), text("a"), text("-22"), null(), num(9)),
		list(num(2), text("a"), text("0"), num(0), num(9)),
	))
	wantRows(t, of, retyping("t", "v", api.KindInt), l, list(
		list(num(3), text("a"), num(33), num(333)),
		list(num(1), text("b"), null(), num(111)),
		list(num(2), text("a"), num(-22), null()),
		list(num(2), text("a"), num(0), num(0)),
	))
	wantRows(t, of, retyping("t", "w", api.KindText), l, list(
		list(num(3), text("a"), text("33"), text("333")),
		list(num(1), text("b"), null(), text("111")),
		list(num(2), text("a"), text("-22"), null()),
		list(num(2), text("a"), text("0"), text("0")),
	))
	wantRows(t, of, merging("t", "u", "u"), l[:1], l[:1])
	wantRows(t, of, splitting("t", "a", "b", "v"), l[1:3], picked(0, 1, 2)[1:3], picked(0, 1, 3)[1:3])
}

// Many rows.
func TestManyRows(t *testing.T) {
	var l, to, also [][]api.Value
	for i := range 500 {
		r := list(num(i*7919%500), num(i), num(-i))
		l, to, also = append(l, r), append(to, at(r, 0, 2)), append(also, at(r, 0, 1))
	}
	wantRows(t, ints(1, 3), splitting("t", "a", "b", "c2"), l, to, also)
	wantRows(t, ints(1, 3), merging("t", "u", "v"), l, l)
	wantNoRows(t, ints(1, 3), merging("t", "u", "v"), append(l, row(4)), 500, api.ErrType)
}

// The first row that is refused is told, and its error: at each place, alone, and with others behind it.
func TestPlaces(t *testing.T) {
	of := table("t", 1, col("k", api.KindInt), open("v", api.KindText))
	c := retyping("t", "v", api.KindInt)
	good := list(num(1), text("1"))
	for _, no := range []struct {
		row []api.Value
		err api.Errno
	}{
		{list(num(1), text("x")), api.ErrText},
		{list(num(1), text("\xff")), api.ErrText},
		{list(num(1), sample.Bool(2)), api.ErrRange},
		{list(num(1), num(1)), api.ErrType},
		{list(num(1)), api.ErrType},
		{nil, api.ErrType},
		{list(num(1), api.Value{Kind: 6}), api.ErrKind},
		{list(null(), text("x")), api.ErrType},
	} {
		for count := 1; count <= 5; count++ {
			for place := range count {
				l := make([][]api.Value, count)
				for i := range l {
					l[i] = good
				}
				l[place] = no.row
				wantNoRows(t, of, c, l, place, no.err)
				for behind := place + 1; behind < count; behind++ {
					l[behind] = list(num(2), sample.Bytes(sample.TooLong)) // ErrType
					wantNoRows(t, of, c, l, place, no.err)
					l[behind] = list(num(2), text("y")) // ErrText
					wantNoRows(t, of, c, l, place, no.err)
				}
			}
		}
	}
}

// Of each Kind the first and the last row of several.
func TestPlacesOfEachKind(t *testing.T) {
	of, good, bad := ints(1, 3), list(num(1), num(1), num(1)), list(num(1), num(1), text("1"))
	for _, want := range right() {
		wantNoRows(t, of, want.c, list(bad, good, good), 0, api.ErrType)
		wantNoRows(t, of, want.c, list(good, bad, good), 1, api.ErrType)
		wantNoRows(t, of, want.c, list(good, good, bad), 2, api.ErrType)
		wantNoRows(t, of, want.c, list(good, bad, row(2)), 1, api.ErrType)
		wantNoRows(t, of, want.c, list(good, put(bad, 1, sample.Bool(2)), bad), 1, api.ErrRange)
		wantNoRows(t, of, want.c, list(bad, put(bad, 1, sample.Bool(2))), 0, api.ErrType)
	}
	c := retyping("t", "c2", api.KindBool)
	wantNoRows(t, of, c, list(good, put(good, 2, num(2)), bad), 1, api.ErrRange)
	wantNoRows(t, of, c, list(good, bad, put(good, 2, num(2))), 1, api.ErrType)
	wantNoRows(t, of, c, list(good, good, put(good, 2, num(-1))), 2, api.ErrRange)
	wantNoRows(t, of, c, list(put(good, 2, num(2)), good, good), 0, api.ErrRange)

	// What each row is refused for is told of the first one that it is told of: here the first of all, unless that does not fit.
	for _, no := range []struct {
		c   api.Change
		err api.Errno
	}{
		{dropping("t", "c0"), api.ErrColumn}, {dropping("t", "x"), api.ErrColumn}, {retyping("t", "x", 2), api.ErrColumn},
		{retyping("t", "c1", 6), api.ErrKind}, {dropping("u", "c1"), api.ErrArg}, {whole(api.ChangeCreate), api.ErrArg}, {whole(7), api.ErrArg},
	} {
		wantNoRows(t, of, no.c, list(good, bad, good), 0, no.err)
		wantNoRows(t, of, no.c, list(bad, good, good), 0, api.ErrType)
	}
}
